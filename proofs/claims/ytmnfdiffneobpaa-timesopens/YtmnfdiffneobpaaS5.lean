/-
  The document's Open.
-/
import Derived.Test.YtmnfdiffneobpaaS3
import Derived.Test.YtmnfdiffneobpaaO1
import Derived.Test.YtmnfdiffneobpaaP3
import Derived.Test.YtmnfdiffneobpaaM1
namespace Go.Proofs.Ytmnfdiffneobpaa
open Go.RowKit Go.Shelf
set_option linter.unusedVariables false

/-- What the document's Open answers. -/
def ROpen (bl : List UInt8) (w : World) (e : Ending) (w' : World) : Prop :=
  w.grownBy w' none ∧ ((openMore bl ∧ e = .returned (.tuple #[.pointer none, .int .i64 111])) ∨ (¬ openMore bl ∧ ¬ openOk bl ∧ e = .returned (.tuple #[.pointer none, .int .i64 220])) ∨
    (openOk bl ∧ ∃ b ro rc, e = .returned (.tuple #[.pointer (some ⟨b, 0, none⟩), .int .i64 0]) ∧ Ry w' b ro rc (n8 bl 0) (n8 bl 8) (scanL bl (cntB bl)) ∧ w.heap.size ≤ b ∧ ∀ k, blk ro = some k → w.heap.size ≤ k))
theorem Bs.part {w : World} {g o n cap : Nat} {l : List UInt8} (h : Bs w (some ⟨g, o, none⟩) n cap l) (k m : Nat) (hk : k + m ≤ n) : Bs w (some ⟨g, o + k, none⟩) m (cap - k) ((l.drop k).take m) := (h.drop k (by omega) (o + k) (.inr rfl)).take m (by omega)
theorem wrap_is (n : Int) : wrap64 n = IntKind.i64.wrap n := by
  simp only [wrap64, IntKind.wrap, IntKind.bits, IntKind.signed]
  simp
  split <;> omega
theorem right_ok {bs en : Int} {l : List Sd} (hl : l.length ≤ 65536) : RightP bs en l ↔ (0 ≤ bs ∧ bs ≤ 9007199254740992 ∧ OkI bs en l) := by
  constructor
  · intro h
    refine ⟨h.b0, h.b1, ⟨fun e => h.nil.1 (by rw [e]; rfl), fun hp => ?_⟩⟩
    obtain ⟨k, hk⟩ : ∃ k, l.length = k + 1 := ⟨l.length - 1, by omega⟩
    have e1 : lastS bs l = l[k] := (congrArg (prevS bs l) hk).trans (prevS_at bs l (by omega))
    have hz := h.each k l[k] (List.getElem?_eq_getElem (by omega))
    refine ⟨fun i hi _ => ?_, (h.each 0 l[0] (List.getElem?_eq_getElem hp)).first rfl, by rw [e1]; exact hz.oe, h.e1, by rw [e1]; exact hz.p1⟩
    have hy := h.each i l[i] (List.getElem?_eq_getElem hi)
    cases i with
    | zero => have := hy.first rfl; have := hy.p0; simp only [prevS]; omega
    | succ j =>
      rw [prevS_at _ _ (by omega)]
      exact hy.later l[j] (by omega) (by rw [Nat.add_sub_cancel]; exact List.getElem?_eq_getElem (by omega))
  · rintro ⟨h0, h1, hok⟩
    rcases Nat.eq_zero_or_pos l.length with hp | hp
    · have e := hok.none (List.eq_nil_of_length_eq_zero hp)
      exact ⟨h0, h1, by omega, by omega, hl, ⟨fun _ => e, fun _ => hp⟩, fun i s hs => by have := (List.getElem?_eq_some_iff.1 hs).1; omega⟩
    · obtain ⟨k, hk⟩ : ∃ k, l.length = k + 1 := ⟨l.length - 1, by omega⟩
      have e1 : lastS bs l = l[k] := (congrArg (prevS bs l) hk).trans (prevS_at bs l (by omega))
      obtain ⟨hA, hf, hle, hen, hlp⟩ := hok.some hp
      rw [e1] at hle hlp
      have up : ∀ a b (ha : a < l.length) (hb : b < l.length), a ≤ b → l[a].o ≤ l[b].o ∧ l[a].p ≤ l[b].p := by
        intro a b
        induction b with
        | zero =>
          intro ha hb hab
          obtain rfl : a = 0 := by omega
          exact ⟨Int.le_refl _, Int.le_refl _⟩
        | succ b ih =>
          intro ha hb hab
          rcases Nat.lt_or_ge a (b + 1) with h9 | h9
          · have i1 := ih ha (by omega) (by omega)
            have i2 := hA (b + 1) hb hb
            rw [prevS_at _ _ (by omega)] at i2
            omega
          · obtain rfl : a = b + 1 := by omega
            exact ⟨Int.le_refl _, Int.le_refl _⟩
      have hbl : bs ≤ l[k].o := by have := (up 0 k hp (by omega) (by omega)).1; omega
      refine ⟨h0, h1, by omega, hen, hl, ⟨fun e => by omega, fun e => by omega⟩, fun i s hs => ?_⟩
      obtain ⟨hi, rfl⟩ := List.getElem?_eq_some_iff.1 hs
      have u1 := up i k hi (by omega) (by omega)
      have a0 := hA 0 hp hp
      simp only [prevS] at a0
      have u0 := up 0 i hp hi (by omega)
      refine ⟨by omega, by omega, by omega, fun e => by subst e; exact hf, fun r hi0 hr => ?_⟩
      obtain ⟨j, rfl⟩ : ∃ j, i = j + 1 := ⟨i - 1, by omega⟩
      rw [Nat.add_sub_cancel] at hr
      obtain ⟨hj, rfl⟩ := List.getElem?_eq_some_iff.1 hr
      have := hA (j + 1) hi hi
      rwa [prevS_at _ _ hj] at this


set_option maxRecDepth 100000 in
set_option maxHeartbeats 4000000 in
theorem ropen_any (w : World) (bo : Option Addr) (n bc : Nat) (bl : List UInt8) (hb : Bs w bo n bc bl) (hn : n ≤ 4000) :
    Calls Try.prog 19 #[.slice bo n bc] w fun e w' => ROpen bl w e w' := by
  have hlen := hb.len
  by_cases h20 : n < 20
  · have d : decide ((n : Int) < 20) = true := by simp; omega
    have hp : ROpen bl w (.returned (.tuple #[.pointer none, .int .i64 111])) w := ⟨grown_refl _ _, .inl ⟨.inl (by omega), rfl⟩⟩
    clear hlen
    go_enter Try.func19, Try.ntmps19
    go_wp2
    go_ret2
    exact hp
  have d : decide ((n : Int) < 20) = false := by simp; omega
  obtain ⟨g, o, rfl, hgl⟩ := hb.addr (by omega)
  have hroom := hb.room
  have htop := hb.top
  have f16 : ¬ bc = 16 := by omega
  have f8 : ¬ bc = 8 := by omega
  have i1 : (20 : Int) ≤ (bc : Int) := by omega
  have i8 : (8 : Int) ≤ (bc : Int) := by omega
  have i16 : (16 : Int) ≤ (bc : Int) := by omega
  have i2 : (20 : Int) ≤ (n : Int) := by omega
  have i3 : (n : Int) ≤ (bc : Int) := by omega
  have hnu := rvalue_any w (some ⟨g, o + 16, none⟩) 4 (bc - 16) ((bl.drop 16).take 4) (hb.part 16 4 (by omega)) (by omega)
  have hC : val ((bl.drop 16).take 4) = cntB bl := rfl
  rw [hC] at hnu
  have hC32 : cntB bl < 4294967296 := by
    have := val_lt ((bl.drop 16).take 4)
    have h4 : ((bl.drop 16).take 4).length = 4 := by simp; omega
    rw [h4] at this
    rw [← hC]
    omega
  have hlen' : Hid _ := hlen
  obtain ⟨C, hCC⟩ : ∃ C, cntB bl = C := ⟨_, rfl⟩
  rw [hCC] at hnu hC32
  have hCC' : Hid _ := hCC
  clear hlen hC hCC
  go_enter Try.func19, Try.ntmps19
  go_wp2_with fail
  refine hnu.mono ?_
  rintro e w1 ⟨rfl, hw1⟩
  replace hw1 := hw1.symm
  subst hw1
  clear hnu
  obtain ⟨D, hD⟩ : ∃ D, 16 * C = D := ⟨_, rfl⟩
  obtain ⟨E, hE⟩ : ∃ E, 20 + D = E := ⟨_, rfl⟩
  have e16 : (16 : Int) * (C : Int) = (D : Int) := by omega
  have e20 : (20 : Int) + (D : Int) = (E : Int) := by omega
  have hE' : Hid (20 + 16 * C = E) := by show _ = _; omega
  have hEl : E < 9223372036854775807 := by omega
  have hDl : D < 9223372036854775807 := by omega
  clear hD hE
  by_cases hm : C ≤ 65536 ∧ n < E
  · have d1 : decide ((C : Int) ≤ 65536) = true := by simp; omega
    have d2 : decide (n < E) = true := by simp; omega
    have hp : ROpen bl w (.returned (.tuple #[.pointer none, .int .i64 111])) w := ⟨grown_refl _ _, .inl ⟨.inr ⟨by rw [hCC'.out]; exact hm.1, by rw [hCC'.out, hlen'.out, hE'.out]; exact hm.2⟩, rfl⟩⟩
    clear hm
    go_wp2
    go_ret2
    exact hp
  have hnm : Hid (¬ openMore bl) := fun h9 => by
    rcases h9 with h9 | ⟨h9, h10⟩
    · have := hlen'.out; omega
    · rw [hCC'.out] at h9 h10
      rw [hlen'.out, hE'.out] at h10
      exact hm ⟨h9, h10⟩
  by_cases hne : n ≠ E
  · have d3 : ((n : Int) != (E : Int)) = true := by simp; omega
    have hp : ROpen bl w (.returned (.tuple #[.pointer none, .int .i64 220])) w := ⟨grown_refl _ _, .inr (.inl ⟨hnm.out, fun h9 => by
      have := h9.len
      rw [hCC'.out, hlen'.out, hE'.out] at this
      exact hne this, rfl⟩)⟩
    clear hnm hne
    by_cases hc : C ≤ 65536
    · have d1 : decide ((C : Int) ≤ 65536) = true := by simp; omega
      have d2 : decide (n < E) = false := by simp; omega
      clear hm hc
      go_wp2
      go_ret2
      exact hp
    · have d1 : decide ((C : Int) ≤ 65536) = false := by simp; omega
      clear hm hc
      go_wp2
      go_ret2
      exact hp
  obtain rfl : n = E := by omega
  have d3 : ((n : Int) != (n : Int)) = false := by simp
  have hCs : C ≤ 250 := by have := hE'.out; omega
  have d1 : decide ((C : Int) ≤ 65536) = true := by simp; omega
  have d2 : decide (n < n) = false := by simp
  clear hm hne
  obtain ⟨V1, hV1⟩ : ∃ z, val (bl.take 8) = z := ⟨_, rfl⟩
  obtain ⟨V2, hV2⟩ : ∃ z, val ((bl.drop 8).take 8) = z := ⟨_, rfl⟩
  have hbs' : Hid (n8 bl 0 = IntKind.i64.wrap (V1 : Int)) := by show _ = _; rw [← hV1, ← wrap_is]; rfl
  have hen' : Hid (n8 bl 8 = IntKind.i64.wrap (V2 : Int)) := by show _ = _; rw [← hV2, ← wrap_is]; rfl
  have hn1 := rvalue_any w.drew (some ⟨g, o, none⟩) 8 bc (bl.take 8) ((hb.grown (grown_drew w none)).take 8 (by omega)) (by omega)
  have hn2 := rvalue_any w.drew (some ⟨g, o + 8, none⟩) 8 (bc - 8) ((bl.drop 8).take 8) ((hb.grown (grown_drew w none)).part 8 8 (by omega)) (by omega)
  rw [hV1] at hn1
  rw [hV2] at hn2
  clear hV1 hV2
  go_wp2_with fail
  refine wp_region_held_drew (S := fun _ : World => True) (by kernel_rfl) trivial (fun hHeld => ?_)
  refine wpAnyH_take (i := 0) (oi := { dst := some 30, op := Op.move (Operand.tmp 0), type := 40, pos := "ref.go:156", after := #[], guard := none }) (v := ?_) rfl (by kernel_rfl) (by kernel_rfl) (by kernel_rfl) (fun _ _ _ h => h) (Or.inl ⟨by rfl, ?_⟩) (by assumption) ?_
  rotate_left
  · intro w hSw; (try dsimp only at hSw); go_simp
    try with_reducible rfl
  try simp only [Act.put, List.setIfInBounds_toArray, List.set_cons_zero, List.set_cons_succ]
  refine wpAnyH_take (i := 4) (oi := { dst := some 34, op := Op.move (Operand.tmp 0), type := 40, pos := "ref.go:156", after := #[], guard := none }) (v := ?_) rfl (by kernel_rfl) (by kernel_rfl) (by kernel_rfl) (fun _ _ _ h => h) (Or.inl ⟨by rfl, ?_⟩) (by assumption) ?_
  rotate_left
  · intro w hSw; (try dsimp only at hSw); go_simp
    try with_reducible rfl
  try simp only [Act.put, List.setIfInBounds_toArray, List.set_cons_zero, List.set_cons_succ]
  refine wpAnyH_take (i := 1) (oi := { dst := some 31, op := Op.slice 40 (Operand.tmp 30) none (some (Operand.const (Value.int IntKind.i64 8))) none, type := 40, pos := "ref.go:156", after := #[{ on := 0, ground := Ground.data }], guard := none }) (v := ?_) rfl (by kernel_rfl) (by kernel_rfl) (by kernel_rfl) (fun _ _ _ h => h) (Or.inl ⟨by rfl, ?_⟩) (by assumption) ?_
  rotate_left
  · intro w hSw; (try dsimp only at hSw); go_simp
    try with_reducible rfl
  try simp only [Act.put, List.setIfInBounds_toArray, List.set_cons_zero, List.set_cons_succ]
  refine wpAnyH_take (i := 5) (oi := { dst := some 35, op := Op.slice 40 (Operand.tmp 34) (some (Operand.const (Value.int IntKind.i64 8))) (some (Operand.const (Value.int IntKind.i64 16))) none, type := 40, pos := "ref.go:156", after := #[{ on := 4, ground := Ground.data }], guard := none }) (v := ?_) rfl (by kernel_rfl) (by kernel_rfl) (by kernel_rfl) (fun _ _ _ h => h) (Or.inl ⟨by rfl, ?_⟩) (by assumption) ?_
  rotate_left
  · intro w hSw; (try dsimp only at hSw); go_simp
    try with_reducible rfl
  try simp only [Act.put, List.setIfInBounds_toArray, List.set_cons_zero, List.set_cons_succ]
  refine wpAnyH_ready (rs := [2]) (by kernel_rfl) (by simp) ?_
  refine AllReadyH.cons (o := { dst := some 32, op := Op.call { callee := Callee.value (Operand.func 51), args := #[Operand.tmp 31], argTypes := #[40] }, type := 90, pos := "ref.go:156", after := #[{ on := 1, ground := Ground.data }], guard := none }) rfl (fun K hK => ?_) (AllReadyH.nil)
  go_simp
  go_at_call 51
  refine hn1.mono ?_
  rintro e w' ⟨rfl, hw'⟩; replace hw' := hw'.symm; subst hw'
  try go_simp
  refine hK.out _ _ trivial (fun hHeld => ?_)
  clear hK K
  try simp only [Act.put, List.setIfInBounds_toArray, List.set_cons_zero, List.set_cons_succ]
  refine wpAnyH_take (i := 3) (oi := { dst := some 33, op := Op.convert 90 2 (Operand.tmp 32), type := 2, pos := "ref.go:156", after := #[{ on := 2, ground := Ground.data }], guard := none }) (v := ?_) rfl (by kernel_rfl) (by kernel_rfl) (by kernel_rfl) (fun _ _ _ h => h) (Or.inl ⟨by rfl, ?_⟩) (by assumption) ?_
  rotate_left
  · intro w hSw; (try dsimp only at hSw); go_simp
    try with_reducible rfl
  try simp only [Act.put, List.setIfInBounds_toArray, List.set_cons_zero, List.set_cons_succ]
  refine wpAnyH_ready (rs := [6]) (by kernel_rfl) (by simp) ?_
  refine AllReadyH.cons (o := { dst := some 36, op := Op.call { callee := Callee.value (Operand.func 51), args := #[Operand.tmp 35], argTypes := #[40] }, type := 90, pos := "ref.go:156", after := #[{ on := 5, ground := Ground.data }, { on := 2, ground := Ground.chain }], guard := none }) rfl (fun K hK => ?_) (AllReadyH.nil)
  go_simp
  go_at_call 51
  refine hn2.mono ?_
  rintro e w' ⟨rfl, hw'⟩; replace hw' := hw'.symm; subst hw'
  try go_simp
  refine hK.out _ _ trivial (fun hHeld => ?_)
  clear hK K
  try simp only [Act.put, List.setIfInBounds_toArray, List.set_cons_zero, List.set_cons_succ]
  refine wpAnyH_take (i := 7) (oi := { dst := some 37, op := Op.convert 90 2 (Operand.tmp 36), type := 2, pos := "ref.go:156", after := #[{ on := 6, ground := Ground.data }], guard := none }) (v := ?_) rfl (by kernel_rfl) (by kernel_rfl) (by kernel_rfl) (fun _ _ _ h => h) (Or.inl ⟨by rfl, ?_⟩) (by assumption) ?_
  rotate_left
  · intro w hSw; (try dsimp only at hSw); go_simp
    try with_reducible rfl
  try simp only [Act.put, List.setIfInBounds_toArray, List.set_cons_zero, List.set_cons_succ]
  refine wpAnyH_take (i := 8) (oi := { dst := some 38, op := Op.build 35 #[(0, Operand.tmp 33), (1, Operand.tmp 37)], type := 35, pos := "ref.go:156", after := #[{ on := 3, ground := Ground.data }, { on := 7, ground := Ground.data }], guard := none }) (v := ?_) rfl (by kernel_rfl) (by kernel_rfl) (by kernel_rfl) (fun _ _ _ h => h) (Or.inl ⟨by rfl, ?_⟩) (by assumption) ?_
  rotate_left
  · intro w hSw; (try dsimp only at hSw); go_simp
    try with_reducible rfl
  try simp only [Act.put, List.setIfInBounds_toArray, List.set_cons_zero, List.set_cons_succ]
  refine wpAnyH_ready (rs := [9]) (by kernel_rfl) (by simp) ?_
  refine AllReadyH.cons (o := { dst := some 39, op := Op.box 35 (Operand.tmp 38), type := 32, pos := "ref.go:156", after := #[{ on := 8, ground := Ground.data }], guard := none }) rfl (fun K hK => ?_) (AllReadyH.nil)
  go_simp
  refine hK.out _ _ trivial (fun hHeld => ?_)
  clear hK K
  try simp only [Act.put, List.setIfInBounds_toArray, List.set_cons_zero, List.set_cons_succ]
  refine wpAnyH_take (i := 10) (oi := { dst := some 5, op := Op.assign (Operand.tmp 39), type := 32, pos := "ref.go:156", after := #[{ on := 9, ground := Ground.data }, { on := 6, ground := Ground.chain }, { on := 0, ground := Ground.phase }, { on := 1, ground := Ground.phase }, { on := 2, ground := Ground.phase }, { on := 3, ground := Ground.phase }, { on := 4, ground := Ground.phase }, { on := 5, ground := Ground.phase }, { on := 6, ground := Ground.phase }, { on := 7, ground := Ground.phase }, { on := 8, ground := Ground.phase }, { on := 9, ground := Ground.phase }], guard := none }) (v := ?_) rfl (by kernel_rfl) (by kernel_rfl) (by kernel_rfl) (fun _ _ _ h => h) (Or.inl ⟨by rfl, ?_⟩) (by assumption) ?_
  rotate_left
  · intro w hSw; (try dsimp only at hSw); go_simp
    try with_reducible rfl
  try simp only [Act.put, List.setIfInBounds_toArray, List.set_cons_zero, List.set_cons_succ]
  refine wpAnyH_done (by kernel_rfl) ?_ _
  generalize IntKind.i64.wrap (V1 : Int) = bs at *
  generalize IntKind.i64.wrap (V2 : Int) = en at *
  have hga := alloc_grown w (.cells #[.int .i64 bs, .int .i64 en, .slice none 0 0] 35)
  have hk9 := World.alloc_heap_new w (.cells #[.int .i64 bs, .int .i64 en, .slice none 0 0] 35)
  have hg1 := grown_trans hga (grown_drew _ none) (by simp)
  have hY1 : Ry (w.alloc (.cells #[.int .i64 bs, .int .i64 en, .slice none 0 0] 35)).drew w.heap.size none 0 bs en (scanL bl 0) := Ry.grown ⟨hk9, Sw.nil _ _⟩ (grown_drew _ none)
  clear hga hk9 hn1 hn2
  generalize (w.alloc (.cells #[.int .i64 bs, .int .i64 en, .slice none 0 0] 35)).drew = w1 at *
  go_wp2_with fail
  go_loopw [6] (fun v6 wr => ∃ (i a : Nat) (rr : Option Addr) (rc : Nat), v6 = .int .i64 a ∧ Hid (a = 20 + 16 * i) ∧ i ≤ C ∧ Ry wr w.heap.size rr rc bs en (scanL bl i) ∧ Fresh w rr ∧ w.grownBy wr none) (fun v6 _ => n - (intOf v6).toNat)
  case atStart => exact ⟨0, 20, none, 0, rfl, rfl, Nat.zero_le _, hY1, fun k e => (by cases e), hg1⟩
  case round =>
    obtain ⟨i, a, rr, rc, rfl, ha, hi, hY, hF, hg⟩ := hrel
    by_cases hlt : i < C
    · have ha16 : a + 16 ≤ n := by have := ha.out; have := hE'.out; omega
      have d4 : decide (a < n) = true := by simp; omega
      have d5 : decide ((a : Int) < (n : Int)) = true := by simp; omega
      obtain ⟨A8, h8⟩ : ∃ A8, a + 8 = A8 := ⟨_, rfl⟩
      obtain ⟨A16, h16⟩ : ∃ A16, a + 16 = A16 := ⟨_, rfl⟩
      have e8 : (a : Int) + 8 = (A8 : Int) := by omega
      have e16 : (a : Int) + 16 = (A16 : Int) := by omega
      have l8 : A8 - a = 8 := by omega
      have l16 : A16 - A8 = 8 := by omega
      have j1 : (0 : Int) ≤ (a : Int) := by omega
      have j2 : (a : Int) ≤ (A8 : Int) := by omega
      have j3 : (A8 : Int) ≤ (bc : Int) := by omega
      have j4 : (0 : Int) ≤ (A8 : Int) := by omega
      have j5 : (A8 : Int) ≤ (A16 : Int) := by omega
      have j6 : (A16 : Int) ≤ (bc : Int) := by omega
      have wA8 : IntKind.i64.wrap (A8 : Int) = (A8 : Int) := IntWalk.i64_in _ (by omega)
      have wA16 : IntKind.i64.wrap (A16 : Int) = (A16 : Int) := IntWalk.i64_in _ (by omega)
      have n1 : a ≤ A8 := by omega
      have n2 : A8 ≤ A16 := by omega
      have f1 : ¬ bc = a := by omega
      have f2 : ¬ bc = A8 := by omega
      have hA16 : A16 ≤ 4000 := by omega
      obtain ⟨X, hX⟩ : ∃ z, val ((bl.drop a).take 8) = z := ⟨_, rfl⟩
      obtain ⟨Y, hYv⟩ : ∃ z, val ((bl.drop A8).take 8) = z := ⟨_, rfl⟩
      have hri : Hid (riseAt bl i = ⟨IntKind.i64.wrap (X : Int), IntKind.i64.wrap (Y : Int)⟩) := by
        show _ = _
        unfold riseAt n8
        rw [← ha.out, h8, hX, hYv, wrap_is, wrap_is]
      have hgd := grown_trans hg (grown_drew wr none) (by simp)
      have hbd := hb.grown hgd
      have hn1 := rvalue_any wr.drew (some ⟨g, o + a, none⟩) 8 (bc - a) ((bl.drop a).take 8) (hbd.part a 8 (by omega)) (by omega)
      have hn2 := rvalue_any wr.drew (some ⟨g, o + A8, none⟩) 8 (bc - A8) ((bl.drop A8).take 8) (hbd.part A8 8 (by omega)) (by omega)
      have hYd := hY.grown (grown_drew wr none)
      have hS := hYd.sw
      have q2 := hYd.ix.c2
      rw [scanL_len] at hS q2
      rw [hX] at hn1
      rw [hYv] at hn2
      clear h8 h16 hbd hX hYv
      go_wp2_with fail
      refine wp_region_held_drew (S := fun _ : World => True) (by kernel_rfl) trivial (fun hHeld => ?_)
      generalize wr.drew = wd at *
      refine wpAnyH_take (i := 0) (oi := { dst := some 46, op := Op.move (Operand.tmp 5), type := 32, pos := "ref.go:158", after := #[], guard := none }) (v := ?_) rfl (by kernel_rfl) (by kernel_rfl) (by kernel_rfl) (fun _ _ _ h => h) (Or.inl ⟨by rfl, ?_⟩) (by assumption) ?_
      rotate_left
      · intro w hSw; (try dsimp only at hSw); go_simp
        try with_reducible rfl
      try simp only [Act.put, List.setIfInBounds_toArray, List.set_cons_zero, List.set_cons_succ]
      refine wpAnyH_take (i := 1) (oi := { dst := some 47, op := Op.move (Operand.tmp 5), type := 32, pos := "ref.go:158", after := #[], guard := none }) (v := ?_) rfl (by kernel_rfl) (by kernel_rfl) (by kernel_rfl) (fun _ _ _ h => h) (Or.inl ⟨by rfl, ?_⟩) (by assumption) ?_
      rotate_left
      · intro w hSw; (try dsimp only at hSw); go_simp
        try with_reducible rfl
      try simp only [Act.put, List.setIfInBounds_toArray, List.set_cons_zero, List.set_cons_succ]
      refine wpAnyH_take (i := 5) (oi := { dst := some 51, op := Op.move (Operand.tmp 0), type := 40, pos := "ref.go:158", after := #[], guard := none }) (v := ?_) rfl (by kernel_rfl) (by kernel_rfl) (by kernel_rfl) (fun _ _ _ h => h) (Or.inl ⟨by rfl, ?_⟩) (by assumption) ?_
      rotate_left
      · intro w hSw; (try dsimp only at hSw); go_simp
        try with_reducible rfl
      try simp only [Act.put, List.setIfInBounds_toArray, List.set_cons_zero, List.set_cons_succ]
      refine wpAnyH_take (i := 6) (oi := { dst := some 52, op := Op.move (Operand.tmp 6), type := 3, pos := "ref.go:158", after := #[], guard := none }) (v := ?_) rfl (by kernel_rfl) (by kernel_rfl) (by kernel_rfl) (fun _ _ _ h => h) (Or.inl ⟨by rfl, ?_⟩) (by assumption) ?_
      rotate_left
      · intro w hSw; (try dsimp only at hSw); go_simp
        try with_reducible rfl
      try simp only [Act.put, List.setIfInBounds_toArray, List.set_cons_zero, List.set_cons_succ]
      refine wpAnyH_take (i := 7) (oi := { dst := some 53, op := Op.move (Operand.tmp 6), type := 3, pos := "ref.go:158", after := #[], guard := none }) (v := ?_) rfl (by kernel_rfl) (by kernel_rfl) (by kernel_rfl) (fun _ _ _ h => h) (Or.inl ⟨by rfl, ?_⟩) (by assumption) ?_
      rotate_left
      · intro w hSw; (try dsimp only at hSw); go_simp
        try with_reducible rfl
      try simp only [Act.put, List.setIfInBounds_toArray, List.set_cons_zero, List.set_cons_succ]
      refine wpAnyH_take (i := 12) (oi := { dst := some 58, op := Op.move (Operand.tmp 0), type := 40, pos := "ref.go:158", after := #[], guard := none }) (v := ?_) rfl (by kernel_rfl) (by kernel_rfl) (by kernel_rfl) (fun _ _ _ h => h) (Or.inl ⟨by rfl, ?_⟩) (by assumption) ?_
      rotate_left
      · intro w hSw; (try dsimp only at hSw); go_simp
        try with_reducible rfl
      try simp only [Act.put, List.setIfInBounds_toArray, List.set_cons_zero, List.set_cons_succ]
      refine wpAnyH_take (i := 13) (oi := { dst := some 59, op := Op.move (Operand.tmp 6), type := 3, pos := "ref.go:158", after := #[], guard := none }) (v := ?_) rfl (by kernel_rfl) (by kernel_rfl) (by kernel_rfl) (fun _ _ _ h => h) (Or.inl ⟨by rfl, ?_⟩) (by assumption) ?_
      rotate_left
      · intro w hSw; (try dsimp only at hSw); go_simp
        try with_reducible rfl
      try simp only [Act.put, List.setIfInBounds_toArray, List.set_cons_zero, List.set_cons_succ]
      refine wpAnyH_take (i := 15) (oi := { dst := some 61, op := Op.move (Operand.tmp 6), type := 3, pos := "ref.go:158", after := #[], guard := none }) (v := ?_) rfl (by kernel_rfl) (by kernel_rfl) (by kernel_rfl) (fun _ _ _ h => h) (Or.inl ⟨by rfl, ?_⟩) (by assumption) ?_
      rotate_left
      · intro w hSw; (try dsimp only at hSw); go_simp
        try with_reducible rfl
      try simp only [Act.put, List.setIfInBounds_toArray, List.set_cons_zero, List.set_cons_succ]
      refine wpAnyH_take (i := 2) (oi := { dst := some 48, op := Op.nilCheck (Operand.tmp 47), type := 0, pos := "ref.go:158", after := #[{ on := 1, ground := Ground.data }], guard := none }) (v := ?_) rfl (by kernel_rfl) (by kernel_rfl) (by kernel_rfl) (fun _ _ _ h => h) (Or.inl ⟨by rfl, ?_⟩) (by assumption) ?_
      rotate_left
      · intro w hSw; (try dsimp only at hSw); go_simp
        try with_reducible rfl
      try simp only [Act.put, List.setIfInBounds_toArray, List.set_cons_zero, List.set_cons_succ]
      refine wpAnyH_take (i := 8) (oi := { dst := some 54, op := Op.binOp BinOp.add 3 (Operand.tmp 53) (Operand.const (Value.int IntKind.i64 8)) 3, type := 3, pos := "ref.go:158", after := #[{ on := 7, ground := Ground.data }], guard := none }) (v := ?_) rfl (by kernel_rfl) (by kernel_rfl) (by kernel_rfl) (fun _ _ _ h => h) (Or.inl ⟨by rfl, ?_⟩) (by assumption) ?_
      rotate_left
      · intro w hSw; (try dsimp only at hSw); go_simp
        try with_reducible rfl
      try simp only [Act.put, List.setIfInBounds_toArray, List.set_cons_zero, List.set_cons_succ]
      refine wpAnyH_take (i := 14) (oi := { dst := some 60, op := Op.binOp BinOp.add 3 (Operand.tmp 59) (Operand.const (Value.int IntKind.i64 8)) 3, type := 3, pos := "ref.go:158", after := #[{ on := 13, ground := Ground.data }], guard := none }) (v := ?_) rfl (by kernel_rfl) (by kernel_rfl) (by kernel_rfl) (fun _ _ _ h => h) (Or.inl ⟨by rfl, ?_⟩) (by assumption) ?_
      rotate_left
      · intro w hSw; (try dsimp only at hSw); go_simp
        try with_reducible rfl
      try simp only [Act.put, List.setIfInBounds_toArray, List.set_cons_zero, List.set_cons_succ]
      refine wpAnyH_take (i := 16) (oi := { dst := some 62, op := Op.binOp BinOp.add 3 (Operand.tmp 61) (Operand.const (Value.int IntKind.i64 16)) 3, type := 3, pos := "ref.go:158", after := #[{ on := 15, ground := Ground.data }], guard := none }) (v := ?_) rfl (by kernel_rfl) (by kernel_rfl) (by kernel_rfl) (fun _ _ _ h => h) (Or.inl ⟨by rfl, ?_⟩) (by assumption) ?_
      rotate_left
      · intro w hSw; (try dsimp only at hSw); go_simp
        try with_reducible rfl
      try simp only [Act.put, List.setIfInBounds_toArray, List.set_cons_zero, List.set_cons_succ]
      refine wpAnyH_take (i := 3) (oi := { dst := some 49, op := Op.fieldAddr 35 (Operand.tmp 48) 2, type := 0, pos := "ref.go:158", after := #[{ on := 2, ground := Ground.data }], guard := none }) (v := ?_) rfl (by kernel_rfl) (by kernel_rfl) (by kernel_rfl) (fun _ _ _ h => h) (Or.inl ⟨by rfl, ?_⟩) (by assumption) ?_
      rotate_left
      · intro w hSw; (try dsimp only at hSw); go_simp
        try with_reducible rfl
      try simp only [Act.put, List.setIfInBounds_toArray, List.set_cons_zero, List.set_cons_succ]
      refine wpAnyH_take (i := 9) (oi := { dst := some 55, op := Op.slice 40 (Operand.tmp 51) (some (Operand.tmp 52)) (some (Operand.tmp 54)) none, type := 40, pos := "ref.go:158", after := #[{ on := 5, ground := Ground.data }, { on := 6, ground := Ground.data }, { on := 8, ground := Ground.data }], guard := none }) (v := ?_) rfl (by kernel_rfl) (by kernel_rfl) (by kernel_rfl) (fun _ _ _ h => h) (Or.inl ⟨by rfl, ?_⟩) (by assumption) ?_
      rotate_left
      · intro w hSw; (try dsimp only at hSw); go_simp
        try with_reducible rfl
      try simp only [Act.put, List.setIfInBounds_toArray, List.set_cons_zero, List.set_cons_succ]
      refine wpAnyH_take (i := 17) (oi := { dst := some 63, op := Op.slice 40 (Operand.tmp 58) (some (Operand.tmp 60)) (some (Operand.tmp 62)) none, type := 40, pos := "ref.go:158", after := #[{ on := 12, ground := Ground.data }, { on := 14, ground := Ground.data }, { on := 16, ground := Ground.data }], guard := none }) (v := ?_) rfl (by kernel_rfl) (by kernel_rfl) (by kernel_rfl) (fun _ _ _ h => h) (Or.inl ⟨by rfl, ?_⟩) (by assumption) ?_
      rotate_left
      · intro w hSw; (try dsimp only at hSw); go_simp
        try with_reducible rfl
      try simp only [Act.put, List.setIfInBounds_toArray, List.set_cons_zero, List.set_cons_succ]
      refine wpAnyH_ready (rs := [4, 10]) (by kernel_rfl) (by simp) ?_
      refine AllReadyH.cons (o := { dst := some 50, op := Op.load 33 (Operand.tmp 49), type := 33, pos := "ref.go:158", after := #[{ on := 3, ground := Ground.data }], guard := none }) rfl (fun K hK => ?_) (AllReadyH.cons (o := { dst := some 56, op := Op.call { callee := Callee.value (Operand.func 51), args := #[Operand.tmp 55], argTypes := #[40] }, type := 90, pos := "ref.go:158", after := #[{ on := 9, ground := Ground.data }], guard := none }) rfl (fun K hK => ?_) (AllReadyH.nil))
      · go_simp
        refine hK.out _ _ trivial (fun hHeld => ?_)
        clear hK K
        try simp only [Act.put, List.setIfInBounds_toArray, List.set_cons_zero, List.set_cons_succ]
        refine wpAnyH_ready (rs := [10]) (by kernel_rfl) (by simp) ?_
        refine AllReadyH.cons (o := { dst := some 56, op := Op.call { callee := Callee.value (Operand.func 51), args := #[Operand.tmp 55], argTypes := #[40] }, type := 90, pos := "ref.go:158", after := #[{ on := 9, ground := Ground.data }], guard := none }) rfl (fun K hK => ?_) (AllReadyH.nil)
        go_simp
        go_at_call 51
        refine hn1.mono ?_
        rintro e w' ⟨rfl, hw'⟩; replace hw' := hw'.symm; subst hw'
        try go_simp
        refine hK.out _ _ trivial (fun hHeld => ?_)
        clear hK K
        try simp only [Act.put, List.setIfInBounds_toArray, List.set_cons_zero, List.set_cons_succ]
        refine wpAnyH_take (i := 11) (oi := { dst := some 57, op := Op.convert 90 2 (Operand.tmp 56), type := 2, pos := "ref.go:158", after := #[{ on := 10, ground := Ground.data }], guard := none }) (v := ?_) rfl (by kernel_rfl) (by kernel_rfl) (by kernel_rfl) (fun _ _ _ h => h) (Or.inl ⟨by rfl, ?_⟩) (by assumption) ?_
        rotate_left
        · intro w hSw; (try dsimp only at hSw); go_simp
          try with_reducible rfl
        try simp only [Act.put, List.setIfInBounds_toArray, List.set_cons_zero, List.set_cons_succ]
        refine wpAnyH_ready (rs := [18]) (by kernel_rfl) (by simp) ?_
        refine AllReadyH.cons (o := { dst := some 64, op := Op.call { callee := Callee.value (Operand.func 51), args := #[Operand.tmp 63], argTypes := #[40] }, type := 90, pos := "ref.go:158", after := #[{ on := 17, ground := Ground.data }, { on := 10, ground := Ground.chain }], guard := none }) rfl (fun K hK => ?_) (AllReadyH.nil)
        go_simp
        go_at_call 51
        refine hn2.mono ?_
        rintro e w' ⟨rfl, hw'⟩; replace hw' := hw'.symm; subst hw'
        try go_simp
        refine hK.out _ _ trivial (fun hHeld => ?_)
        clear hK K
        try simp only [Act.put, List.setIfInBounds_toArray, List.set_cons_zero, List.set_cons_succ]
        refine wpAnyH_take (i := 19) (oi := { dst := some 65, op := Op.convert 90 2 (Operand.tmp 64), type := 2, pos := "ref.go:158", after := #[{ on := 18, ground := Ground.data }], guard := none }) (v := ?_) rfl (by kernel_rfl) (by kernel_rfl) (by kernel_rfl) (fun _ _ _ h => h) (Or.inl ⟨by rfl, ?_⟩) (by assumption) ?_
        rotate_left
        · intro w hSw; (try dsimp only at hSw); go_simp
          try with_reducible rfl
        try simp only [Act.put, List.setIfInBounds_toArray, List.set_cons_zero, List.set_cons_succ]
        refine wpAnyH_take (i := 20) (oi := { dst := some 66, op := Op.build 64 #[(0, Operand.tmp 57), (1, Operand.tmp 65)], type := 64, pos := "ref.go:158", after := #[{ on := 11, ground := Ground.data }, { on := 19, ground := Ground.data }], guard := none }) (v := ?_) rfl (by kernel_rfl) (by kernel_rfl) (by kernel_rfl) (fun _ _ _ h => h) (Or.inl ⟨by rfl, ?_⟩) (by assumption) ?_
        rotate_left
        · intro w hSw; (try dsimp only at hSw); go_simp
          try with_reducible rfl
        try simp only [Act.put, List.setIfInBounds_toArray, List.set_cons_zero, List.set_cons_succ]
        refine wpAnyH_ready (rs := [21]) (by kernel_rfl) (by simp) ?_
        refine AllReadyH.cons (o := { dst := some 67, op := Op.buildSlice 33 1 #[(0, Operand.tmp 66)], type := 33, pos := "ref.go:158", after := #[{ on := 20, ground := Ground.data }], guard := none }) rfl (fun K hK => ?_) (AllReadyH.nil)
        go_simp
        have ga := alloc_grown wd (.cells #[.int .i64 (IntKind.i64.wrap (X : Int)), .int .i64 (IntKind.i64.wrap (Y : Int))] 64)
        have kf := (Sb.new wd (IntKind.i64.wrap (X : Int)) (IntKind.i64.wrap (Y : Int))).shows
        have q2 := ga.cell q2 (by simp)
        refine hK.out _ _ trivial (fun hHeld => ?_)
        clear hK K
        try simp only [Act.put, List.setIfInBounds_toArray, List.set_cons_zero, List.set_cons_succ]
        refine wpAnyH_ready (rs := [22]) (by kernel_rfl) (by simp) ?_
        refine AllReadyH.cons (o := { dst := some 68, op := Op.call { callee := Callee.builtin Builtin.append, args := #[Operand.tmp 50, Operand.tmp 67], argTypes := #[33, 33] }, type := 33, pos := "ref.go:158", after := #[{ on := 4, ground := Ground.data }, { on := 21, ground := Ground.data }, { on := 18, ground := Ground.chain }], guard := none }) rfl (fun K hK => ?_) (AllReadyH.nil)
        refine step_append_sds (by rfl) (by rfl) (.tmp 50) (.tmp 67) (by rfl) 0 (by rfl) (hS.grown ga) (by rfl) kf (by simp) (by omega) (Nat.zero_le _) ?_
        intro po' pc' w4 hs4 hg4 hat4 hold4
        have hx4 : Rx w4 w.heap.size bs en rr (scanL bl i).length rc := (Chg.of_grown ga (fun _ => False)).ext hg4 |> fun _ => by
          have h1 := hYd.ix
          have h2 : Rx (wd.alloc (.cells #[.int .i64 (IntKind.i64.wrap (X : Int)), .int .i64 (IntKind.i64.wrap (Y : Int))] 64)) w.heap.size bs en rr (scanL bl i).length rc := h1.chg (Chg.of_grown ga (fun _ => False)) (fun e => e)
          exact (hg4.block w.heap.size h2.lt (fun e => hYd.rb e.symm)).trans h2
        have hfz := hx4.fz
        have q4 := hx4.c2
        have hset : Hid (Ry (w4.setCell ⟨w.heap.size, 2, none⟩ (.slice po' (i + 1) pc')) w.heap.size po' pc' bs en (scanL bl (i + 1)) ∧ Fresh w po' ∧ w.grownBy (w4.setCell ⟨w.heap.size, 2, none⟩ (.slice po' (i + 1) pc')) none) := by
          have hb4 : blk po' ≠ some w.heap.size := hs4.not64 hx4 (by decide)
          have hwl := hgd.size
          have hFr : Fresh w po' := fun k e => by
            rcases hat4 with ⟨rfl, _⟩ | h9
            · exact hF k e
            · rw [h9] at e; cases e; have := ga.size; omega
          refine ⟨⟨?_, ?_⟩, hFr, ?_⟩
          · have := hx4.set2 po' (i + 1) pc'
            rw [scanL_len]
            exact this
          · rw [scanL_succ, hri.out, List.length_append, scanL_len]
            exact hs4.chg (S := fun q => q = w.heap.size) ⟨rfl, rfl, rfl, by simp, fun q hq hne => (setCell_grown w4 w.heap.size 2 _).block q hq (by simpa using hne)⟩ (fun q e e2 => hb4 (e2 ▸ e))
          · have h1 : w.grownBy w4 none := grown_trans (grown_trans hgd ga (by simp)) hg4 (fun q e => .inr (hF q e))
            exact grown_trans h1 (setCell_grown w4 w.heap.size 2 _) (fun q e => .inr (by cases e; exact Nat.le_refl _))
        refine hK.out _ _ trivial (fun hHeld => ?_)
        clear hK K
        try simp only [Act.put, List.setIfInBounds_toArray, List.set_cons_zero, List.set_cons_succ]
        refine wpAnyH_take (i := 23) (oi := { dst := some 69, op := Op.nilCheck (Operand.tmp 46), type := 0, pos := "ref.go:158", after := #[{ on := 0, ground := Ground.data }, { on := 0, ground := Ground.phase }, { on := 1, ground := Ground.phase }, { on := 2, ground := Ground.phase }, { on := 3, ground := Ground.phase }, { on := 4, ground := Ground.phase }, { on := 5, ground := Ground.phase }, { on := 6, ground := Ground.phase }, { on := 7, ground := Ground.phase }, { on := 8, ground := Ground.phase }, { on := 9, ground := Ground.phase }, { on := 10, ground := Ground.phase }, { on := 11, ground := Ground.phase }, { on := 12, ground := Ground.phase }, { on := 13, ground := Ground.phase }, { on := 14, ground := Ground.phase }, { on := 15, ground := Ground.phase }, { on := 16, ground := Ground.phase }, { on := 17, ground := Ground.phase }, { on := 18, ground := Ground.phase }, { on := 19, ground := Ground.phase }, { on := 20, ground := Ground.phase }, { on := 21, ground := Ground.phase }, { on := 22, ground := Ground.phase }], guard := none }) (v := ?_) rfl (by kernel_rfl) (by kernel_rfl) (by kernel_rfl) (fun _ _ _ h => h) (Or.inl ⟨by rfl, ?_⟩) (by assumption) ?_
        rotate_left
        · intro w hSw; (try dsimp only at hSw); go_simp
          try with_reducible rfl
        try simp only [Act.put, List.setIfInBounds_toArray, List.set_cons_zero, List.set_cons_succ]
        refine wpAnyH_take (i := 24) (oi := { dst := some 70, op := Op.fieldAddr 35 (Operand.tmp 69) 2, type := 0, pos := "ref.go:158", after := #[{ on := 23, ground := Ground.data }, { on := 0, ground := Ground.phase }, { on := 1, ground := Ground.phase }, { on := 2, ground := Ground.phase }, { on := 3, ground := Ground.phase }, { on := 4, ground := Ground.phase }, { on := 5, ground := Ground.phase }, { on := 6, ground := Ground.phase }, { on := 7, ground := Ground.phase }, { on := 8, ground := Ground.phase }, { on := 9, ground := Ground.phase }, { on := 10, ground := Ground.phase }, { on := 11, ground := Ground.phase }, { on := 12, ground := Ground.phase }, { on := 13, ground := Ground.phase }, { on := 14, ground := Ground.phase }, { on := 15, ground := Ground.phase }, { on := 16, ground := Ground.phase }, { on := 17, ground := Ground.phase }, { on := 18, ground := Ground.phase }, { on := 19, ground := Ground.phase }, { on := 20, ground := Ground.phase }, { on := 21, ground := Ground.phase }, { on := 22, ground := Ground.phase }], guard := none }) (v := ?_) rfl (by kernel_rfl) (by kernel_rfl) (by kernel_rfl) (fun _ _ _ h => h) (Or.inl ⟨by rfl, ?_⟩) (by assumption) ?_
        rotate_left
        · intro w hSw; (try dsimp only at hSw); go_simp
          try with_reducible rfl
        try simp only [Act.put, List.setIfInBounds_toArray, List.set_cons_zero, List.set_cons_succ]
        refine wpAnyH_ready (rs := [25]) (by kernel_rfl) (by simp) ?_
        refine AllReadyH.cons (o := { dst := none, op := Op.store 33 (Operand.tmp 70) (Operand.tmp 68), type := 0, pos := "ref.go:158", after := #[{ on := 24, ground := Ground.data }, { on := 22, ground := Ground.data }, { on := 22, ground := Ground.chain }, { on := 0, ground := Ground.phase }, { on := 1, ground := Ground.phase }, { on := 2, ground := Ground.phase }, { on := 3, ground := Ground.phase }, { on := 4, ground := Ground.phase }, { on := 5, ground := Ground.phase }, { on := 6, ground := Ground.phase }, { on := 7, ground := Ground.phase }, { on := 8, ground := Ground.phase }, { on := 9, ground := Ground.phase }, { on := 10, ground := Ground.phase }, { on := 11, ground := Ground.phase }, { on := 12, ground := Ground.phase }, { on := 13, ground := Ground.phase }, { on := 14, ground := Ground.phase }, { on := 15, ground := Ground.phase }, { on := 16, ground := Ground.phase }, { on := 17, ground := Ground.phase }, { on := 18, ground := Ground.phase }, { on := 19, ground := Ground.phase }, { on := 20, ground := Ground.phase }, { on := 21, ground := Ground.phase }, { on := 22, ground := Ground.phase }], guard := none }) rfl (fun K hK => ?_) (AllReadyH.nil)
        go_simp
        refine hK.out _ _ trivial (fun hHeld => ?_)
        clear hK K
        try simp only [Act.put, List.setIfInBounds_toArray, List.set_cons_zero, List.set_cons_succ]
        refine wpAnyH_done (by kernel_rfl) ?_ _
        have hY5 := hset.out
        clear hset
        go_wp2
        go_roundw
        case rel => exact ⟨i + 1, A16, po', pc', by go_num, by show _ = _; have := ha.out; omega, by omega, hY5.1, hY5.2.1, hY5.2.2⟩
        case measure => simp [intOf]; omega
      · go_simp
        go_at_call 51
        refine hn1.mono ?_
        rintro e w' ⟨rfl, hw'⟩; replace hw' := hw'.symm; subst hw'
        try go_simp
        refine hK.out _ _ trivial (fun hHeld => ?_)
        clear hK K
        try simp only [Act.put, List.setIfInBounds_toArray, List.set_cons_zero, List.set_cons_succ]
        refine wpAnyH_take (i := 11) (oi := { dst := some 57, op := Op.convert 90 2 (Operand.tmp 56), type := 2, pos := "ref.go:158", after := #[{ on := 10, ground := Ground.data }], guard := none }) (v := ?_) rfl (by kernel_rfl) (by kernel_rfl) (by kernel_rfl) (fun _ _ _ h => h) (Or.inl ⟨by rfl, ?_⟩) (by assumption) ?_
        rotate_left
        · intro w hSw; (try dsimp only at hSw); go_simp
          try with_reducible rfl
        try simp only [Act.put, List.setIfInBounds_toArray, List.set_cons_zero, List.set_cons_succ]
        refine wpAnyH_ready (rs := [4, 18]) (by kernel_rfl) (by simp) ?_
        refine AllReadyH.cons (o := { dst := some 50, op := Op.load 33 (Operand.tmp 49), type := 33, pos := "ref.go:158", after := #[{ on := 3, ground := Ground.data }], guard := none }) rfl (fun K hK => ?_) (AllReadyH.cons (o := { dst := some 64, op := Op.call { callee := Callee.value (Operand.func 51), args := #[Operand.tmp 63], argTypes := #[40] }, type := 90, pos := "ref.go:158", after := #[{ on := 17, ground := Ground.data }, { on := 10, ground := Ground.chain }], guard := none }) rfl (fun K hK => ?_) (AllReadyH.nil))
        · go_simp
          refine hK.out _ _ trivial (fun hHeld => ?_)
          clear hK K
          try simp only [Act.put, List.setIfInBounds_toArray, List.set_cons_zero, List.set_cons_succ]
          refine wpAnyH_ready (rs := [18]) (by kernel_rfl) (by simp) ?_
          refine AllReadyH.cons (o := { dst := some 64, op := Op.call { callee := Callee.value (Operand.func 51), args := #[Operand.tmp 63], argTypes := #[40] }, type := 90, pos := "ref.go:158", after := #[{ on := 17, ground := Ground.data }, { on := 10, ground := Ground.chain }], guard := none }) rfl (fun K hK => ?_) (AllReadyH.nil)
          go_simp
          go_at_call 51
          refine hn2.mono ?_
          rintro e w' ⟨rfl, hw'⟩; replace hw' := hw'.symm; subst hw'
          try go_simp
          refine hK.out _ _ trivial (fun hHeld => ?_)
          clear hK K
          try simp only [Act.put, List.setIfInBounds_toArray, List.set_cons_zero, List.set_cons_succ]
          refine wpAnyH_take (i := 19) (oi := { dst := some 65, op := Op.convert 90 2 (Operand.tmp 64), type := 2, pos := "ref.go:158", after := #[{ on := 18, ground := Ground.data }], guard := none }) (v := ?_) rfl (by kernel_rfl) (by kernel_rfl) (by kernel_rfl) (fun _ _ _ h => h) (Or.inl ⟨by rfl, ?_⟩) (by assumption) ?_
          rotate_left
          · intro w hSw; (try dsimp only at hSw); go_simp
            try with_reducible rfl
          try simp only [Act.put, List.setIfInBounds_toArray, List.set_cons_zero, List.set_cons_succ]
          refine wpAnyH_take (i := 20) (oi := { dst := some 66, op := Op.build 64 #[(0, Operand.tmp 57), (1, Operand.tmp 65)], type := 64, pos := "ref.go:158", after := #[{ on := 11, ground := Ground.data }, { on := 19, ground := Ground.data }], guard := none }) (v := ?_) rfl (by kernel_rfl) (by kernel_rfl) (by kernel_rfl) (fun _ _ _ h => h) (Or.inl ⟨by rfl, ?_⟩) (by assumption) ?_
          rotate_left
          · intro w hSw; (try dsimp only at hSw); go_simp
            try with_reducible rfl
          try simp only [Act.put, List.setIfInBounds_toArray, List.set_cons_zero, List.set_cons_succ]
          refine wpAnyH_ready (rs := [21]) (by kernel_rfl) (by simp) ?_
          refine AllReadyH.cons (o := { dst := some 67, op := Op.buildSlice 33 1 #[(0, Operand.tmp 66)], type := 33, pos := "ref.go:158", after := #[{ on := 20, ground := Ground.data }], guard := none }) rfl (fun K hK => ?_) (AllReadyH.nil)
          go_simp
          have ga := alloc_grown wd (.cells #[.int .i64 (IntKind.i64.wrap (X : Int)), .int .i64 (IntKind.i64.wrap (Y : Int))] 64)
          have kf := (Sb.new wd (IntKind.i64.wrap (X : Int)) (IntKind.i64.wrap (Y : Int))).shows
          have q2 := ga.cell q2 (by simp)
          refine hK.out _ _ trivial (fun hHeld => ?_)
          clear hK K
          try simp only [Act.put, List.setIfInBounds_toArray, List.set_cons_zero, List.set_cons_succ]
          refine wpAnyH_ready (rs := [22]) (by kernel_rfl) (by simp) ?_
          refine AllReadyH.cons (o := { dst := some 68, op := Op.call { callee := Callee.builtin Builtin.append, args := #[Operand.tmp 50, Operand.tmp 67], argTypes := #[33, 33] }, type := 33, pos := "ref.go:158", after := #[{ on := 4, ground := Ground.data }, { on := 21, ground := Ground.data }, { on := 18, ground := Ground.chain }], guard := none }) rfl (fun K hK => ?_) (AllReadyH.nil)
          refine step_append_sds (by rfl) (by rfl) (.tmp 50) (.tmp 67) (by rfl) 0 (by rfl) (hS.grown ga) (by rfl) kf (by simp) (by omega) (Nat.zero_le _) ?_
          intro po' pc' w4 hs4 hg4 hat4 hold4
          have hx4 : Rx w4 w.heap.size bs en rr (scanL bl i).length rc := (Chg.of_grown ga (fun _ => False)).ext hg4 |> fun _ => by
            have h1 := hYd.ix
            have h2 : Rx (wd.alloc (.cells #[.int .i64 (IntKind.i64.wrap (X : Int)), .int .i64 (IntKind.i64.wrap (Y : Int))] 64)) w.heap.size bs en rr (scanL bl i).length rc := h1.chg (Chg.of_grown ga (fun _ => False)) (fun e => e)
            exact (hg4.block w.heap.size h2.lt (fun e => hYd.rb e.symm)).trans h2
          have hfz := hx4.fz
          have q4 := hx4.c2
          have hset : Hid (Ry (w4.setCell ⟨w.heap.size, 2, none⟩ (.slice po' (i + 1) pc')) w.heap.size po' pc' bs en (scanL bl (i + 1)) ∧ Fresh w po' ∧ w.grownBy (w4.setCell ⟨w.heap.size, 2, none⟩ (.slice po' (i + 1) pc')) none) := by
            have hb4 : blk po' ≠ some w.heap.size := hs4.not64 hx4 (by decide)
            have hwl := hgd.size
            have hFr : Fresh w po' := fun k e => by
              rcases hat4 with ⟨rfl, _⟩ | h9
              · exact hF k e
              · rw [h9] at e; cases e; have := ga.size; omega
            refine ⟨⟨?_, ?_⟩, hFr, ?_⟩
            · have := hx4.set2 po' (i + 1) pc'
              rw [scanL_len]
              exact this
            · rw [scanL_succ, hri.out, List.length_append, scanL_len]
              exact hs4.chg (S := fun q => q = w.heap.size) ⟨rfl, rfl, rfl, by simp, fun q hq hne => (setCell_grown w4 w.heap.size 2 _).block q hq (by simpa using hne)⟩ (fun q e e2 => hb4 (e2 ▸ e))
            · have h1 : w.grownBy w4 none := grown_trans (grown_trans hgd ga (by simp)) hg4 (fun q e => .inr (hF q e))
              exact grown_trans h1 (setCell_grown w4 w.heap.size 2 _) (fun q e => .inr (by cases e; exact Nat.le_refl _))
          refine hK.out _ _ trivial (fun hHeld => ?_)
          clear hK K
          try simp only [Act.put, List.setIfInBounds_toArray, List.set_cons_zero, List.set_cons_succ]
          refine wpAnyH_take (i := 23) (oi := { dst := some 69, op := Op.nilCheck (Operand.tmp 46), type := 0, pos := "ref.go:158", after := #[{ on := 0, ground := Ground.data }, { on := 0, ground := Ground.phase }, { on := 1, ground := Ground.phase }, { on := 2, ground := Ground.phase }, { on := 3, ground := Ground.phase }, { on := 4, ground := Ground.phase }, { on := 5, ground := Ground.phase }, { on := 6, ground := Ground.phase }, { on := 7, ground := Ground.phase }, { on := 8, ground := Ground.phase }, { on := 9, ground := Ground.phase }, { on := 10, ground := Ground.phase }, { on := 11, ground := Ground.phase }, { on := 12, ground := Ground.phase }, { on := 13, ground := Ground.phase }, { on := 14, ground := Ground.phase }, { on := 15, ground := Ground.phase }, { on := 16, ground := Ground.phase }, { on := 17, ground := Ground.phase }, { on := 18, ground := Ground.phase }, { on := 19, ground := Ground.phase }, { on := 20, ground := Ground.phase }, { on := 21, ground := Ground.phase }, { on := 22, ground := Ground.phase }], guard := none }) (v := ?_) rfl (by kernel_rfl) (by kernel_rfl) (by kernel_rfl) (fun _ _ _ h => h) (Or.inl ⟨by rfl, ?_⟩) (by assumption) ?_
          rotate_left
          · intro w hSw; (try dsimp only at hSw); go_simp
            try with_reducible rfl
          try simp only [Act.put, List.setIfInBounds_toArray, List.set_cons_zero, List.set_cons_succ]
          refine wpAnyH_take (i := 24) (oi := { dst := some 70, op := Op.fieldAddr 35 (Operand.tmp 69) 2, type := 0, pos := "ref.go:158", after := #[{ on := 23, ground := Ground.data }, { on := 0, ground := Ground.phase }, { on := 1, ground := Ground.phase }, { on := 2, ground := Ground.phase }, { on := 3, ground := Ground.phase }, { on := 4, ground := Ground.phase }, { on := 5, ground := Ground.phase }, { on := 6, ground := Ground.phase }, { on := 7, ground := Ground.phase }, { on := 8, ground := Ground.phase }, { on := 9, ground := Ground.phase }, { on := 10, ground := Ground.phase }, { on := 11, ground := Ground.phase }, { on := 12, ground := Ground.phase }, { on := 13, ground := Ground.phase }, { on := 14, ground := Ground.phase }, { on := 15, ground := Ground.phase }, { on := 16, ground := Ground.phase }, { on := 17, ground := Ground.phase }, { on := 18, ground := Ground.phase }, { on := 19, ground := Ground.phase }, { on := 20, ground := Ground.phase }, { on := 21, ground := Ground.phase }, { on := 22, ground := Ground.phase }], guard := none }) (v := ?_) rfl (by kernel_rfl) (by kernel_rfl) (by kernel_rfl) (fun _ _ _ h => h) (Or.inl ⟨by rfl, ?_⟩) (by assumption) ?_
          rotate_left
          · intro w hSw; (try dsimp only at hSw); go_simp
            try with_reducible rfl
          try simp only [Act.put, List.setIfInBounds_toArray, List.set_cons_zero, List.set_cons_succ]
          refine wpAnyH_ready (rs := [25]) (by kernel_rfl) (by simp) ?_
          refine AllReadyH.cons (o := { dst := none, op := Op.store 33 (Operand.tmp 70) (Operand.tmp 68), type := 0, pos := "ref.go:158", after := #[{ on := 24, ground := Ground.data }, { on := 22, ground := Ground.data }, { on := 22, ground := Ground.chain }, { on := 0, ground := Ground.phase }, { on := 1, ground := Ground.phase }, { on := 2, ground := Ground.phase }, { on := 3, ground := Ground.phase }, { on := 4, ground := Ground.phase }, { on := 5, ground := Ground.phase }, { on := 6, ground := Ground.phase }, { on := 7, ground := Ground.phase }, { on := 8, ground := Ground.phase }, { on := 9, ground := Ground.phase }, { on := 10, ground := Ground.phase }, { on := 11, ground := Ground.phase }, { on := 12, ground := Ground.phase }, { on := 13, ground := Ground.phase }, { on := 14, ground := Ground.phase }, { on := 15, ground := Ground.phase }, { on := 16, ground := Ground.phase }, { on := 17, ground := Ground.phase }, { on := 18, ground := Ground.phase }, { on := 19, ground := Ground.phase }, { on := 20, ground := Ground.phase }, { on := 21, ground := Ground.phase }, { on := 22, ground := Ground.phase }], guard := none }) rfl (fun K hK => ?_) (AllReadyH.nil)
          go_simp
          refine hK.out _ _ trivial (fun hHeld => ?_)
          clear hK K
          try simp only [Act.put, List.setIfInBounds_toArray, List.set_cons_zero, List.set_cons_succ]
          refine wpAnyH_done (by kernel_rfl) ?_ _
          have hY5 := hset.out
          clear hset
          go_wp2
          go_roundw
          case rel => exact ⟨i + 1, A16, po', pc', by go_num, by show _ = _; have := ha.out; omega, by omega, hY5.1, hY5.2.1, hY5.2.2⟩
          case measure => simp [intOf]; omega
        · go_simp
          go_at_call 51
          refine hn2.mono ?_
          rintro e w' ⟨rfl, hw'⟩; replace hw' := hw'.symm; subst hw'
          try go_simp
          refine hK.out _ _ trivial (fun hHeld => ?_)
          clear hK K
          try simp only [Act.put, List.setIfInBounds_toArray, List.set_cons_zero, List.set_cons_succ]
          refine wpAnyH_take (i := 19) (oi := { dst := some 65, op := Op.convert 90 2 (Operand.tmp 64), type := 2, pos := "ref.go:158", after := #[{ on := 18, ground := Ground.data }], guard := none }) (v := ?_) rfl (by kernel_rfl) (by kernel_rfl) (by kernel_rfl) (fun _ _ _ h => h) (Or.inl ⟨by rfl, ?_⟩) (by assumption) ?_
          rotate_left
          · intro w hSw; (try dsimp only at hSw); go_simp
            try with_reducible rfl
          try simp only [Act.put, List.setIfInBounds_toArray, List.set_cons_zero, List.set_cons_succ]
          refine wpAnyH_take (i := 20) (oi := { dst := some 66, op := Op.build 64 #[(0, Operand.tmp 57), (1, Operand.tmp 65)], type := 64, pos := "ref.go:158", after := #[{ on := 11, ground := Ground.data }, { on := 19, ground := Ground.data }], guard := none }) (v := ?_) rfl (by kernel_rfl) (by kernel_rfl) (by kernel_rfl) (fun _ _ _ h => h) (Or.inl ⟨by rfl, ?_⟩) (by assumption) ?_
          rotate_left
          · intro w hSw; (try dsimp only at hSw); go_simp
            try with_reducible rfl
          try simp only [Act.put, List.setIfInBounds_toArray, List.set_cons_zero, List.set_cons_succ]
          refine wpAnyH_ready (rs := [4, 21]) (by kernel_rfl) (by simp) ?_
          refine AllReadyH.cons (o := { dst := some 50, op := Op.load 33 (Operand.tmp 49), type := 33, pos := "ref.go:158", after := #[{ on := 3, ground := Ground.data }], guard := none }) rfl (fun K hK => ?_) (AllReadyH.cons (o := { dst := some 67, op := Op.buildSlice 33 1 #[(0, Operand.tmp 66)], type := 33, pos := "ref.go:158", after := #[{ on := 20, ground := Ground.data }], guard := none }) rfl (fun K hK => ?_) (AllReadyH.nil))
          · go_simp
            refine hK.out _ _ trivial (fun hHeld => ?_)
            clear hK K
            try simp only [Act.put, List.setIfInBounds_toArray, List.set_cons_zero, List.set_cons_succ]
            refine wpAnyH_ready (rs := [21]) (by kernel_rfl) (by simp) ?_
            refine AllReadyH.cons (o := { dst := some 67, op := Op.buildSlice 33 1 #[(0, Operand.tmp 66)], type := 33, pos := "ref.go:158", after := #[{ on := 20, ground := Ground.data }], guard := none }) rfl (fun K hK => ?_) (AllReadyH.nil)
            go_simp
            have ga := alloc_grown wd (.cells #[.int .i64 (IntKind.i64.wrap (X : Int)), .int .i64 (IntKind.i64.wrap (Y : Int))] 64)
            have kf := (Sb.new wd (IntKind.i64.wrap (X : Int)) (IntKind.i64.wrap (Y : Int))).shows
            have q2 := ga.cell q2 (by simp)
            refine hK.out _ _ trivial (fun hHeld => ?_)
            clear hK K
            try simp only [Act.put, List.setIfInBounds_toArray, List.set_cons_zero, List.set_cons_succ]
            refine wpAnyH_ready (rs := [22]) (by kernel_rfl) (by simp) ?_
            refine AllReadyH.cons (o := { dst := some 68, op := Op.call { callee := Callee.builtin Builtin.append, args := #[Operand.tmp 50, Operand.tmp 67], argTypes := #[33, 33] }, type := 33, pos := "ref.go:158", after := #[{ on := 4, ground := Ground.data }, { on := 21, ground := Ground.data }, { on := 18, ground := Ground.chain }], guard := none }) rfl (fun K hK => ?_) (AllReadyH.nil)
            refine step_append_sds (by rfl) (by rfl) (.tmp 50) (.tmp 67) (by rfl) 0 (by rfl) (hS.grown ga) (by rfl) kf (by simp) (by omega) (Nat.zero_le _) ?_
            intro po' pc' w4 hs4 hg4 hat4 hold4
            have hx4 : Rx w4 w.heap.size bs en rr (scanL bl i).length rc := (Chg.of_grown ga (fun _ => False)).ext hg4 |> fun _ => by
              have h1 := hYd.ix
              have h2 : Rx (wd.alloc (.cells #[.int .i64 (IntKind.i64.wrap (X : Int)), .int .i64 (IntKind.i64.wrap (Y : Int))] 64)) w.heap.size bs en rr (scanL bl i).length rc := h1.chg (Chg.of_grown ga (fun _ => False)) (fun e => e)
              exact (hg4.block w.heap.size h2.lt (fun e => hYd.rb e.symm)).trans h2
            have hfz := hx4.fz
            have q4 := hx4.c2
            have hset : Hid (Ry (w4.setCell ⟨w.heap.size, 2, none⟩ (.slice po' (i + 1) pc')) w.heap.size po' pc' bs en (scanL bl (i + 1)) ∧ Fresh w po' ∧ w.grownBy (w4.setCell ⟨w.heap.size, 2, none⟩ (.slice po' (i + 1) pc')) none) := by
              have hb4 : blk po' ≠ some w.heap.size := hs4.not64 hx4 (by decide)
              have hwl := hgd.size
              have hFr : Fresh w po' := fun k e => by
                rcases hat4 with ⟨rfl, _⟩ | h9
                · exact hF k e
                · rw [h9] at e; cases e; have := ga.size; omega
              refine ⟨⟨?_, ?_⟩, hFr, ?_⟩
              · have := hx4.set2 po' (i + 1) pc'
                rw [scanL_len]
                exact this
              · rw [scanL_succ, hri.out, List.length_append, scanL_len]
                exact hs4.chg (S := fun q => q = w.heap.size) ⟨rfl, rfl, rfl, by simp, fun q hq hne => (setCell_grown w4 w.heap.size 2 _).block q hq (by simpa using hne)⟩ (fun q e e2 => hb4 (e2 ▸ e))
              · have h1 : w.grownBy w4 none := grown_trans (grown_trans hgd ga (by simp)) hg4 (fun q e => .inr (hF q e))
                exact grown_trans h1 (setCell_grown w4 w.heap.size 2 _) (fun q e => .inr (by cases e; exact Nat.le_refl _))
            refine hK.out _ _ trivial (fun hHeld => ?_)
            clear hK K
            try simp only [Act.put, List.setIfInBounds_toArray, List.set_cons_zero, List.set_cons_succ]
            refine wpAnyH_take (i := 23) (oi := { dst := some 69, op := Op.nilCheck (Operand.tmp 46), type := 0, pos := "ref.go:158", after := #[{ on := 0, ground := Ground.data }, { on := 0, ground := Ground.phase }, { on := 1, ground := Ground.phase }, { on := 2, ground := Ground.phase }, { on := 3, ground := Ground.phase }, { on := 4, ground := Ground.phase }, { on := 5, ground := Ground.phase }, { on := 6, ground := Ground.phase }, { on := 7, ground := Ground.phase }, { on := 8, ground := Ground.phase }, { on := 9, ground := Ground.phase }, { on := 10, ground := Ground.phase }, { on := 11, ground := Ground.phase }, { on := 12, ground := Ground.phase }, { on := 13, ground := Ground.phase }, { on := 14, ground := Ground.phase }, { on := 15, ground := Ground.phase }, { on := 16, ground := Ground.phase }, { on := 17, ground := Ground.phase }, { on := 18, ground := Ground.phase }, { on := 19, ground := Ground.phase }, { on := 20, ground := Ground.phase }, { on := 21, ground := Ground.phase }, { on := 22, ground := Ground.phase }], guard := none }) (v := ?_) rfl (by kernel_rfl) (by kernel_rfl) (by kernel_rfl) (fun _ _ _ h => h) (Or.inl ⟨by rfl, ?_⟩) (by assumption) ?_
            rotate_left
            · intro w hSw; (try dsimp only at hSw); go_simp
              try with_reducible rfl
            try simp only [Act.put, List.setIfInBounds_toArray, List.set_cons_zero, List.set_cons_succ]
            refine wpAnyH_take (i := 24) (oi := { dst := some 70, op := Op.fieldAddr 35 (Operand.tmp 69) 2, type := 0, pos := "ref.go:158", after := #[{ on := 23, ground := Ground.data }, { on := 0, ground := Ground.phase }, { on := 1, ground := Ground.phase }, { on := 2, ground := Ground.phase }, { on := 3, ground := Ground.phase }, { on := 4, ground := Ground.phase }, { on := 5, ground := Ground.phase }, { on := 6, ground := Ground.phase }, { on := 7, ground := Ground.phase }, { on := 8, ground := Ground.phase }, { on := 9, ground := Ground.phase }, { on := 10, ground := Ground.phase }, { on := 11, ground := Ground.phase }, { on := 12, ground := Ground.phase }, { on := 13, ground := Ground.phase }, { on := 14, ground := Ground.phase }, { on := 15, ground := Ground.phase }, { on := 16, ground := Ground.phase }, { on := 17, ground := Ground.phase }, { on := 18, ground := Ground.phase }, { on := 19, ground := Ground.phase }, { on := 20, ground := Ground.phase }, { on := 21, ground := Ground.phase }, { on := 22, ground := Ground.phase }], guard := none }) (v := ?_) rfl (by kernel_rfl) (by kernel_rfl) (by kernel_rfl) (fun _ _ _ h => h) (Or.inl ⟨by rfl, ?_⟩) (by assumption) ?_
            rotate_left
            · intro w hSw; (try dsimp only at hSw); go_simp
              try with_reducible rfl
            try simp only [Act.put, List.setIfInBounds_toArray, List.set_cons_zero, List.set_cons_succ]
            refine wpAnyH_ready (rs := [25]) (by kernel_rfl) (by simp) ?_
            refine AllReadyH.cons (o := { dst := none, op := Op.store 33 (Operand.tmp 70) (Operand.tmp 68), type := 0, pos := "ref.go:158", after := #[{ on := 24, ground := Ground.data }, { on := 22, ground := Ground.data }, { on := 22, ground := Ground.chain }, { on := 0, ground := Ground.phase }, { on := 1, ground := Ground.phase }, { on := 2, ground := Ground.phase }, { on := 3, ground := Ground.phase }, { on := 4, ground := Ground.phase }, { on := 5, ground := Ground.phase }, { on := 6, ground := Ground.phase }, { on := 7, ground := Ground.phase }, { on := 8, ground := Ground.phase }, { on := 9, ground := Ground.phase }, { on := 10, ground := Ground.phase }, { on := 11, ground := Ground.phase }, { on := 12, ground := Ground.phase }, { on := 13, ground := Ground.phase }, { on := 14, ground := Ground.phase }, { on := 15, ground := Ground.phase }, { on := 16, ground := Ground.phase }, { on := 17, ground := Ground.phase }, { on := 18, ground := Ground.phase }, { on := 19, ground := Ground.phase }, { on := 20, ground := Ground.phase }, { on := 21, ground := Ground.phase }, { on := 22, ground := Ground.phase }], guard := none }) rfl (fun K hK => ?_) (AllReadyH.nil)
            go_simp
            refine hK.out _ _ trivial (fun hHeld => ?_)
            clear hK K
            try simp only [Act.put, List.setIfInBounds_toArray, List.set_cons_zero, List.set_cons_succ]
            refine wpAnyH_done (by kernel_rfl) ?_ _
            have hY5 := hset.out
            clear hset
            go_wp2
            go_roundw
            case rel => exact ⟨i + 1, A16, po', pc', by go_num, by show _ = _; have := ha.out; omega, by omega, hY5.1, hY5.2.1, hY5.2.2⟩
            case measure => simp [intOf]; omega
          · go_simp
            have ga := alloc_grown wd (.cells #[.int .i64 (IntKind.i64.wrap (X : Int)), .int .i64 (IntKind.i64.wrap (Y : Int))] 64)
            have kf := (Sb.new wd (IntKind.i64.wrap (X : Int)) (IntKind.i64.wrap (Y : Int))).shows
            have q2 := ga.cell q2 (by simp)
            refine hK.out _ _ trivial (fun hHeld => ?_)
            clear hK K
            try simp only [Act.put, List.setIfInBounds_toArray, List.set_cons_zero, List.set_cons_succ]
            refine wpAnyH_ready (rs := [4]) (by kernel_rfl) (by simp) ?_
            refine AllReadyH.cons (o := { dst := some 50, op := Op.load 33 (Operand.tmp 49), type := 33, pos := "ref.go:158", after := #[{ on := 3, ground := Ground.data }], guard := none }) rfl (fun K hK => ?_) (AllReadyH.nil)
            go_simp
            refine hK.out _ _ trivial (fun hHeld => ?_)
            clear hK K
            try simp only [Act.put, List.setIfInBounds_toArray, List.set_cons_zero, List.set_cons_succ]
            refine wpAnyH_ready (rs := [22]) (by kernel_rfl) (by simp) ?_
            refine AllReadyH.cons (o := { dst := some 68, op := Op.call { callee := Callee.builtin Builtin.append, args := #[Operand.tmp 50, Operand.tmp 67], argTypes := #[33, 33] }, type := 33, pos := "ref.go:158", after := #[{ on := 4, ground := Ground.data }, { on := 21, ground := Ground.data }, { on := 18, ground := Ground.chain }], guard := none }) rfl (fun K hK => ?_) (AllReadyH.nil)
            refine step_append_sds (by rfl) (by rfl) (.tmp 50) (.tmp 67) (by rfl) 0 (by rfl) (hS.grown ga) (by rfl) kf (by simp) (by omega) (Nat.zero_le _) ?_
            intro po' pc' w4 hs4 hg4 hat4 hold4
            have hx4 : Rx w4 w.heap.size bs en rr (scanL bl i).length rc := (Chg.of_grown ga (fun _ => False)).ext hg4 |> fun _ => by
              have h1 := hYd.ix
              have h2 : Rx (wd.alloc (.cells #[.int .i64 (IntKind.i64.wrap (X : Int)), .int .i64 (IntKind.i64.wrap (Y : Int))] 64)) w.heap.size bs en rr (scanL bl i).length rc := h1.chg (Chg.of_grown ga (fun _ => False)) (fun e => e)
              exact (hg4.block w.heap.size h2.lt (fun e => hYd.rb e.symm)).trans h2
            have hfz := hx4.fz
            have q4 := hx4.c2
            have hset : Hid (Ry (w4.setCell ⟨w.heap.size, 2, none⟩ (.slice po' (i + 1) pc')) w.heap.size po' pc' bs en (scanL bl (i + 1)) ∧ Fresh w po' ∧ w.grownBy (w4.setCell ⟨w.heap.size, 2, none⟩ (.slice po' (i + 1) pc')) none) := by
              have hb4 : blk po' ≠ some w.heap.size := hs4.not64 hx4 (by decide)
              have hwl := hgd.size
              have hFr : Fresh w po' := fun k e => by
                rcases hat4 with ⟨rfl, _⟩ | h9
                · exact hF k e
                · rw [h9] at e; cases e; have := ga.size; omega
              refine ⟨⟨?_, ?_⟩, hFr, ?_⟩
              · have := hx4.set2 po' (i + 1) pc'
                rw [scanL_len]
                exact this
              · rw [scanL_succ, hri.out, List.length_append, scanL_len]
                exact hs4.chg (S := fun q => q = w.heap.size) ⟨rfl, rfl, rfl, by simp, fun q hq hne => (setCell_grown w4 w.heap.size 2 _).block q hq (by simpa using hne)⟩ (fun q e e2 => hb4 (e2 ▸ e))
              · have h1 : w.grownBy w4 none := grown_trans (grown_trans hgd ga (by simp)) hg4 (fun q e => .inr (hF q e))
                exact grown_trans h1 (setCell_grown w4 w.heap.size 2 _) (fun q e => .inr (by cases e; exact Nat.le_refl _))
            refine hK.out _ _ trivial (fun hHeld => ?_)
            clear hK K
            try simp only [Act.put, List.setIfInBounds_toArray, List.set_cons_zero, List.set_cons_succ]
            refine wpAnyH_take (i := 23) (oi := { dst := some 69, op := Op.nilCheck (Operand.tmp 46), type := 0, pos := "ref.go:158", after := #[{ on := 0, ground := Ground.data }, { on := 0, ground := Ground.phase }, { on := 1, ground := Ground.phase }, { on := 2, ground := Ground.phase }, { on := 3, ground := Ground.phase }, { on := 4, ground := Ground.phase }, { on := 5, ground := Ground.phase }, { on := 6, ground := Ground.phase }, { on := 7, ground := Ground.phase }, { on := 8, ground := Ground.phase }, { on := 9, ground := Ground.phase }, { on := 10, ground := Ground.phase }, { on := 11, ground := Ground.phase }, { on := 12, ground := Ground.phase }, { on := 13, ground := Ground.phase }, { on := 14, ground := Ground.phase }, { on := 15, ground := Ground.phase }, { on := 16, ground := Ground.phase }, { on := 17, ground := Ground.phase }, { on := 18, ground := Ground.phase }, { on := 19, ground := Ground.phase }, { on := 20, ground := Ground.phase }, { on := 21, ground := Ground.phase }, { on := 22, ground := Ground.phase }], guard := none }) (v := ?_) rfl (by kernel_rfl) (by kernel_rfl) (by kernel_rfl) (fun _ _ _ h => h) (Or.inl ⟨by rfl, ?_⟩) (by assumption) ?_
            rotate_left
            · intro w hSw; (try dsimp only at hSw); go_simp
              try with_reducible rfl
            try simp only [Act.put, List.setIfInBounds_toArray, List.set_cons_zero, List.set_cons_succ]
            refine wpAnyH_take (i := 24) (oi := { dst := some 70, op := Op.fieldAddr 35 (Operand.tmp 69) 2, type := 0, pos := "ref.go:158", after := #[{ on := 23, ground := Ground.data }, { on := 0, ground := Ground.phase }, { on := 1, ground := Ground.phase }, { on := 2, ground := Ground.phase }, { on := 3, ground := Ground.phase }, { on := 4, ground := Ground.phase }, { on := 5, ground := Ground.phase }, { on := 6, ground := Ground.phase }, { on := 7, ground := Ground.phase }, { on := 8, ground := Ground.phase }, { on := 9, ground := Ground.phase }, { on := 10, ground := Ground.phase }, { on := 11, ground := Ground.phase }, { on := 12, ground := Ground.phase }, { on := 13, ground := Ground.phase }, { on := 14, ground := Ground.phase }, { on := 15, ground := Ground.phase }, { on := 16, ground := Ground.phase }, { on := 17, ground := Ground.phase }, { on := 18, ground := Ground.phase }, { on := 19, ground := Ground.phase }, { on := 20, ground := Ground.phase }, { on := 21, ground := Ground.phase }, { on := 22, ground := Ground.phase }], guard := none }) (v := ?_) rfl (by kernel_rfl) (by kernel_rfl) (by kernel_rfl) (fun _ _ _ h => h) (Or.inl ⟨by rfl, ?_⟩) (by assumption) ?_
            rotate_left
            · intro w hSw; (try dsimp only at hSw); go_simp
              try with_reducible rfl
            try simp only [Act.put, List.setIfInBounds_toArray, List.set_cons_zero, List.set_cons_succ]
            refine wpAnyH_ready (rs := [25]) (by kernel_rfl) (by simp) ?_
            refine AllReadyH.cons (o := { dst := none, op := Op.store 33 (Operand.tmp 70) (Operand.tmp 68), type := 0, pos := "ref.go:158", after := #[{ on := 24, ground := Ground.data }, { on := 22, ground := Ground.data }, { on := 22, ground := Ground.chain }, { on := 0, ground := Ground.phase }, { on := 1, ground := Ground.phase }, { on := 2, ground := Ground.phase }, { on := 3, ground := Ground.phase }, { on := 4, ground := Ground.phase }, { on := 5, ground := Ground.phase }, { on := 6, ground := Ground.phase }, { on := 7, ground := Ground.phase }, { on := 8, ground := Ground.phase }, { on := 9, ground := Ground.phase }, { on := 10, ground := Ground.phase }, { on := 11, ground := Ground.phase }, { on := 12, ground := Ground.phase }, { on := 13, ground := Ground.phase }, { on := 14, ground := Ground.phase }, { on := 15, ground := Ground.phase }, { on := 16, ground := Ground.phase }, { on := 17, ground := Ground.phase }, { on := 18, ground := Ground.phase }, { on := 19, ground := Ground.phase }, { on := 20, ground := Ground.phase }, { on := 21, ground := Ground.phase }, { on := 22, ground := Ground.phase }], guard := none }) rfl (fun K hK => ?_) (AllReadyH.nil)
            go_simp
            refine hK.out _ _ trivial (fun hHeld => ?_)
            clear hK K
            try simp only [Act.put, List.setIfInBounds_toArray, List.set_cons_zero, List.set_cons_succ]
            refine wpAnyH_done (by kernel_rfl) ?_ _
            have hY5 := hset.out
            clear hset
            go_wp2
            go_roundw
            case rel => exact ⟨i + 1, A16, po', pc', by go_num, by show _ = _; have := ha.out; omega, by omega, hY5.1, hY5.2.1, hY5.2.2⟩
            case measure => simp [intOf]; omega
    · have d4 : decide (a < n) = false := by have := ha.out; have := hE'.out; simp; omega
      have d5 : decide ((a : Int) < (n : Int)) = false := by have := ha.out; have := hE'.out; simp; omega
      obtain rfl : i = C := by omega
      have hrr := rright_any hY (by rw [scanL_len]; omega)
      go_wp2_with fail
      refine hrr.mono ?_
      rintro e w5 ⟨⟨v, rfl, hv⟩, hg5⟩
      have hG5 := grown_trans hg hg5 (by simp)
      have hro := right_ok (bs := bs) (en := en) (l := scanL bl i) (by rw [scanL_len]; omega)
      cases v
      · have hp : ROpen bl w (.returned (.tuple #[.pointer none, .int .i64 220])) w5 := ⟨hG5, .inr (.inl ⟨hnm.out, fun h9 => by
          have h0 := h9.lo
          have h1 := h9.hi
          have h2 := h9.ok
          rw [hbs'.out] at h0 h1
          rw [hbs'.out, hen'.out, hCC'.out] at h2
          exact absurd (hv.2 (hro.2 ⟨h0, h1, h2⟩)) (by decide), rfl⟩)⟩
        clear hv hro hrr
        go_wp2
        go_ret2
        exact hp
      · obtain ⟨h0, h1, h2⟩ := hro.1 (hv.1 rfl)
        have hp : ROpen bl w (.returned (.tuple #[.pointer (some ⟨w.heap.size, 0, none⟩), .int .i64 0])) w5 := ⟨hG5, .inr (.inr ⟨⟨by rw [hCC'.out]; omega, by rw [hCC'.out, hlen'.out, hE'.out], by rw [hbs'.out]; exact h0, by rw [hbs'.out]; exact h1, by rw [hbs'.out, hen'.out, hCC'.out]; exact h2⟩, w.heap.size, rr, rc, rfl, by rw [hbs'.out, hen'.out, hCC'.out]; exact hY.grown hg5, Nat.le_refl _, hF⟩)⟩
        clear hv hro hrr h0 h1 h2
        go_wp2
        go_ret2
        exact hp

end Go.Proofs.Ytmnfdiffneobpaa
