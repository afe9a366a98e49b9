import Derived.Test.YtlghcboenkglnaaGreatDoorZba
import Derived.Shelf.SlSorted.Search
import Derived.Ground.SlsoProg
import Derived.Test.YtlghcboenkglnaaGreatDoorProg
/-
  Add: a spot put; Add whole.
-/
namespace Go.Proofs.YtlghcboenkglnaaGreatDoor.Idx
open Go.Proofs.YtlghcboenkglnaaGreatDoor
open Go.RowKit
set_option linter.unusedVariables false
section
variable {w w' : World} {base b : Nat} {st : Int} {l : List Sd}

set_option maxRecDepth 100000 in
set_option maxHeartbeats 2000000 in
theorem add_ok (h : Xd w base b st l) (hD : Dt w) (hgood : Good l) (h1 : 1 ≤ st) (hlen : l.length < 100000) (s : Sd) (hb : badB l s = false) (hn : nearB st l s = false) : Calls Tryz.prog 105 #[.pointer (some ⟨b, 0, none⟩), s.val] w fun e w' => e = .returned (.tuple #[.bool true, .int .i64 0]) ∧ Xd w' base b st (l ++ [s]) ∧ Chg w w' (fun k => base ≤ k) := by
  unfold nearB at hn
  have hbw : b < w.heap.size := by obtain ⟨⟨_, _, hi, _⟩, _, _⟩ := h; exact hi.lt
  have hga := alloc_grown w (.cells #[.int .i64 s.o, .int .i64 s.p] 138)
  have hX1 := h.grown hga
  have hs1 := Sb.new w s.o s.p
  obtain ⟨⟨ro, rc, hi, hr⟩, _, hf⟩ := hX1
  have hah := ahead_any (h.grown hga) (hD.grown hga) l.length (Nat.le_refl _)
  have c1 := hi.c1
  have hma := made_yes hi.c0 h1
  unfold Sd.val
  unfold badB at hb
  have hgd := ahead_good hgood l.length
  generalize ahead l l.length = t at *
  go_enter Tryz.func105, Tryz.ntmps105
  go_wp2_with fail
  generalize w.alloc (.cells #[.int .i64 s.o, .int .i64 s.p] 138) = w1 at *
  refine hma.mono ?_
  rintro e w1 ⟨rfl, rfl⟩
  go_wp2_with fail
  refine hah.mono ?_
  rintro e w2 ⟨rfl, hg2⟩
  have hg3 := grown_trans (grown_trans hga hg2 (by simp)) (alloc_grown w2 (.cells #[.int .i64 t.o, .int .i64 t.p] 138)) (by simp)
  have ht := Sb.new w2 t.o t.p
  have hs3 := (hs1.grown hg2).grown (alloc_grown w2 (.cells #[.int .i64 t.o, .int .i64 t.p] 138))
  have e0 := hs3.c0
  have e1 := hs3.c1
  have k0 := ht.c0
  have k1 := ht.c1
  have hri := rises_any (w2.alloc (.cells #[.int .i64 t.o, .int .i64 t.p] 138)) s t
  obtain ⟨y, hy⟩ : ∃ y, w2.heap.size = y := ⟨_, rfl⟩
  unfold Sd.val at hri ⊢
  clear hs1 c1 hah hma hi hr
  go_wp2_with fail
  generalize w2.alloc (.cells #[.int .i64 t.o, .int .i64 t.p] 138) = w3 at *
  refine hri.mono ?_
  clear hri
  rintro e w4 ⟨rfl, hg4⟩
  have hs4 := hs3.grown hg4
  have m0 := hs4.c0
  have m1 := hs4.c1
  have hgf := grown_trans hg3 hg4 (by simp)
  have ht4 := ht.grown hg4
  rw [hy] at ht4
  have n0 := ht4.c0
  have n1 := ht4.c1
  have hD4 := hD.grown hgf
  have z0 := hD4.c0
  have z1 := hD4.c1
  have hX4 := h.grown hgf
  clear e0 e1 k0 k1 hs3 ht hg3 hg4 hga hg2
  obtain ⟨⟨ro4, rc4, hi0, hr0⟩, hge, _⟩ := h
  have hi4 := hi0.chg (Chg.of_grown hgf (fun _ => False)) (fun e => e)
  have hr4 := hr0.chg (Chg.of_grown hgf (fun _ => False)) (fun _ _ e => e)
  have i0 := hi4.c0
  simp only [Bool.or_eq_false_iff, Bool.not_eq_false'] at hb
  obtain ⟨⟨r1, r2⟩, r3⟩ := hb
  rw [r1]
  have q1 : s.p - t.p ≤ 16777217 := by simp at r3; omega
  have q2 : 0 < s.p - t.p := by unfold risesB at r1; simp at r1; omega
  have nb := ne33
  have hwr : IntKind.i64.wrap (s.p - t.p) = s.p - t.p := by rw [IntWalk.i64_in _ (by omega)]
  have hr5 : Hid _ := hr4
  have hi5 : Hid _ := hi4
  have hs5 : Hid _ := hs4
  have hrow := hr4.from_base
  have hwl : w.heap.size ≤ w4.heap.size := hgf.size
  have hyb : w.heap.size ≠ b := by have := hbw; omega
  have hyr : blk ro4 ≠ some w.heap.size := fun e => by have := (hr0.from_base _ e).2; omega
  unfold isNo at hn
  clear hgood hgd hD4 hs4 ht4 hi4 r1 hX4 hi0 hr0 hr4
  by_cases hno : (decide (t.o = -1) && decide (t.p = -1)) = true
  · have hn1' : (!(decide (t.o = -1) && decide (t.p = -1))) = false := by rw [hno]; rfl
    go_wp2_with fail
    go_big_quiet (fail)
    go_wp2_with fail
    have hgq := grown_drewN w4 nq none
    generalize w4.drewN nq = w5 at *
    refine wp_mono (reg8 (Ix.chg hi5.out (Chg.of_grown hgq (fun _ => False)) (fun e => e)) (hr5.out.chg (Chg.of_grown hgq (fun _ => False)) (fun _ _ e => e)) hge hlen (Sb.grown hs5.out hgq) hyb hyr _ _ _ _ _ _ _ _ _ _ _ _ _ _ _ _ _ _ _ _ _ _ _ _ _ _ _ _ _ _ _ _ _ _ _ _ _ _ _ _ _ _ _ _ _ _ _ _ _ _ _ _ _ _ _) ?_
    rintro e a' w6 ⟨rfl, u46, u47, u48, u49, u50, u51, u52, u53, u54, u55, rfl, hX6, hc6⟩
    have hcf : Chg w w6 (fun k => base ≤ k) := (Chg.of_grown (grown_trans hgf hgq (by simp)) _).trans (hc6.mono (fun k _ e => by rcases e with e | e; exact e ▸ hge; exact (hrow k e).1))
    go_wp2
    go_ret2
    exact ⟨rfl, hX6, hcf⟩
  · have hn1' : (!(decide (t.o = -1) && decide (t.p = -1))) = true := by rw [Bool.not_eq_true] at hno; rw [hno]; rfl
    have hn2 : decide (s.p - t.p < st) = false := by simpa [hn1'] using hn
    go_wp2_with fail
    go_big_quiet (fail)
    go_wp2_with fail
    have hgq := grown_drewN w4 nq none
    generalize w4.drewN nq = w5 at *
    refine wp_mono (reg8 (Ix.chg hi5.out (Chg.of_grown hgq (fun _ => False)) (fun e => e)) (hr5.out.chg (Chg.of_grown hgq (fun _ => False)) (fun _ _ e => e)) hge hlen (Sb.grown hs5.out hgq) hyb hyr _ _ _ _ _ _ _ _ _ _ _ _ _ _ _ _ _ _ _ _ _ _ _ _ _ _ _ _ _ _ _ _ _ _ _ _ _ _ _ _ _ _ _ _ _ _ _ _ _ _ _ _ _ _ _) ?_
    rintro e a' w6 ⟨rfl, u46, u47, u48, u49, u50, u51, u52, u53, u54, u55, rfl, hX6, hc6⟩
    have hcf : Chg w w6 (fun k => base ≤ k) := (Chg.of_grown (grown_trans hgf hgq (by simp)) _).trans (hc6.mono (fun k _ e => by rcases e with e | e; exact e ▸ hge; exact (hrow k e).1))
    go_wp2
    go_ret2
    exact ⟨rfl, hX6, hcf⟩
/-- What Add answers, and the spots behind it. -/
def addR (st : Int) (l : List Sd) (s : Sd) : Bool × Int × List Sd := if badB l s then (false, 2, l) else if nearB st l s then (false, 0, l) else (true, 0, l ++ [s])
theorem add_any (h : Xd w base b st l) (hD : Dt w) (hgood : Good l) (h1 : 1 ≤ st) (hlen : l.length < 100000) (s : Sd) : Calls Tryz.prog 105 #[.pointer (some ⟨b, 0, none⟩), s.val] w fun e w' => e = .returned (.tuple #[.bool (addR st l s).1, .int .i64 (addR st l s).2.1]) ∧ Xd w' base b st (addR st l s).2.2 ∧ Chg w w' (fun k => base ≤ k) := by
  unfold addR
  by_cases hb : badB l s = true
  · rw [if_pos hb]
    exact (add_bad h hD h1 s hb).mono fun e w' q => ⟨q.1, h.grown q.2, Chg.of_grown q.2 _⟩
  · rw [if_neg hb]
    rw [Bool.not_eq_true] at hb
    by_cases hn : nearB st l s = true
    · rw [if_pos hn]
      exact (add_near h hD hgood h1 s hb hn).mono fun e w' q => ⟨q.1, h.grown q.2, Chg.of_grown q.2 _⟩
    · rw [if_neg hn]
      rw [Bool.not_eq_true] at hn
      exact add_ok h hD hgood h1 hlen s hb hn
theorem addR_good (h : Good l) (st : Int) (s : Sd) : Good (addR st l s).2.2 := by
  unfold addR
  split
  · exact h
  · split
    · exact h
    · rename_i hb _
      rw [Bool.not_eq_true] at hb
      unfold badB risesB at hb
      simp at hb
      have hg := ahead_good h l.length
      intro t ht
      rcases List.mem_append.1 ht with ht | ht
      · exact h t ht
      · obtain rfl : t = s := by simpa using ht
        omega
end
end Go.Proofs.YtlghcboenkglnaaGreatDoor.Idx

/-
  DERIVED: THE SHELF's CONTRACTS AT THIS DUMP, IN PLAIN WORDS (tools/lay-plain.mjs out of 'YtbnoemfhcpjdjaaDoorShelf.lean', which tools/lay-shelf.mjs wrote): THE SAME DECLARATIONS UNDER THE SAME NAMES: 'import', 'namespace', 'open', 'def', 'theorem' AND NOTHING ELSE: no command of the shelf's: FOR A HAND-IN. Each laying: the table of numbers ('.._ren') and one theorem, a field a fact of the dump's own or the kernel's comparison; each contract: ONE APPLICATION.
-/
namespace Go.Proofs
open Go.Shelf
def Tryz.searchL_ren : Go.Shelf.Ren := ⟨fun | 16 => 175 | n => n, fun | 3 => 3 | 35 => 121 | 4 => 4 | 38 => 180 | n => n, fun | n => n⟩
theorem Tryz.searchL : Go.Proofs.SlLaysO.n16 Tryz.prog Tryz.searchL_ren := {
  mixed := by kernel_rfl
  f16 := Tryz.func175.trans (congrArg some (by kernel_rfl))
  t3 := Tryz.underlying3
  a3 := Tryz.isAgg3
  z3 := Tryz.sizeOf3
  v3 := Tryz.zeroValue3
  t4 := Tryz.underlying4
  a4 := Tryz.isAgg4
  z4 := Tryz.sizeOf4
  v4 := Tryz.zeroValue4
  t35 := Tryz.underlying121
  a35 := Tryz.isAgg121
  z35 := Tryz.sizeOf121
  v35 := Tryz.zeroValue121
  t38 := Tryz.underlying180
  a38 := Tryz.isAgg180
  z38 := Tryz.sizeOf180
  v38 := Tryz.zeroValue180 }
end Go.Proofs

/-
  The closures that are searched by; counting by halves.
-/
namespace Go.Proofs.YtlghcboenkglnaaGreatDoor.Idx
open Go.Proofs.YtlghcboenkglnaaGreatDoor
open Go.RowKit Go.Sort
set_option linter.unusedVariables false

theorem grow_grown (w : World) (m : Nat) (os : Array Obj) : w.grownBy (grow (w.drewN m) os) none :=
  ⟨rfl, rfl, rfl, by simp [grow], fun k hk _ => by
    show ((w.drewN m).heap ++ os)[k]? = _
    rw [Array.getElem?_append_left (by exact hk)]
    rfl⟩
set_option maxRecDepth 100000 in
theorem clo30 (W : World) (s : Sd) (z : Nat) (n : Int) (hz : W.cell? ⟨z, 0, none⟩ = some (.int .i64 n)) : Calls Tryz.prog 143 #[s.val, .pointer (some ⟨z, 0, none⟩)] W fun e w' => e = .returned (.bool (decide (n < s.o))) ∧ w' = W.alloc (.cells #[.int .i64 s.o, .int .i64 s.p] 138) := by
  unfold Sd.val
  have hg := alloc_grown W (.cells #[.int .i64 s.o, .int .i64 s.p] 138)
  have c0 := (Sb.new W s.o s.p).c0
  have cz := hg.cell hz (by simp)
  go_enter Tryz.func143, Tryz.ntmps143
  go_wp2
  go_ret
  exact ⟨rfl, rfl⟩
/-- What a closure says of a spot. -/
def Says (w : World) (g z : Nat) (pB : Sd → Bool) : Prop := ∀ W s, w.grownBy W none → Calls Tryz.prog g #[s.val, .pointer (some ⟨z, 0, none⟩)] W fun e w' => e = .returned (.bool (pB s)) ∧ w' = W.alloc (.cells #[.int .i64 s.o, .int .i64 s.p] 138)
set_option maxRecDepth 100000 in
set_option maxHeartbeats 1000000 in
theorem clo45 (W : World) {base b g z z2 z3 : Nat} {st : Int} {l : List Sd} {pB : Sd → Bool} (hX : Xd W base b st l) (hS : Says W g z pB) (eg : ∀ args w, (callFunc g args).run Tryz.prog w = .ok (.enter g args) w)
    (h3 : W.cell? ⟨z3, 0, none⟩ = some (.func (.func g) #[] #[.pointer (some ⟨z, 0, none⟩)])) (h2 : W.cell? ⟨z2, 0, none⟩ = some (.pointer (some ⟨b, 0, none⟩))) (i : Nat) (hi : i < l.length) :
    Calls Tryz.prog 176 #[.int .i64 i, .pointer (some ⟨z3, 0, none⟩), .pointer (some ⟨z2, 0, none⟩)] W fun e w' => e = .returned (.bool (pB (l.getD i Sd.no))) ∧ ∃ q os', w' = grow (W.drewN q) os' := by
  obtain ⟨⟨ro, rc, hx, hs⟩, _, hf⟩ := hX
  obtain ⟨gr, rfl, _, _⟩ := hs.addr (by omega)
  obtain ⟨t, ht⟩ : ∃ t, l[i]? = some t := ⟨_, List.getElem?_eq_getElem hi⟩
  have hgt : l.getD i Sd.no = t := by simp [ht]
  rw [hgt]
  have e0 := hs.at ht 0 (by decide)
  have e1 := hs.at ht 1 (by decide)
  simp only [Sd.cells, List.getElem?_cons_zero, List.getElem?_cons_succ, Nat.add_zero] at e0 e1
  have c1 := hx.c1
  have i1 : (0 : Int) ≤ (i : Int) := by omega
  have i2 : (i : Int) < (l.length : Int) := by omega
  have hcl := hS W.drew t (grown_drew W none)
  unfold Sd.val at hcl
  clear ht hgt hs hx
  go_enter Tryz.func176, Tryz.ntmps176
  go_wp2_with fail
  have hSS : ∀ V, W.grownBy V none → (fun w' => w'.cell? ⟨z3, 0, none⟩ = some (.func (.func g) #[] #[.pointer (some ⟨z, 0, none⟩)]) ∧ w'.cell? ⟨z2, 0, none⟩ = some (.pointer (some ⟨b, 0, none⟩)) ∧ w'.cell? ⟨b, 1, none⟩ = some (.slice (some ⟨gr, 0, none⟩) l.length rc) ∧ w'.cell? ⟨gr, i * 2, none⟩ = some (.int .i64 t.o) ∧ w'.cell? ⟨gr, i * 2 + 1, none⟩ = some (.int .i64 t.p)) V := fun V hV => ⟨hV.cell h3 (by simp), hV.cell h2 (by simp), hV.cell c1 (by simp), hV.cell e0 (by simp), hV.cell e1 (by simp)⟩
  refine wp_region_held_drew (S := fun w' => w'.cell? ⟨z3, 0, none⟩ = some (.func (.func g) #[] #[.pointer (some ⟨z, 0, none⟩)]) ∧ w'.cell? ⟨z2, 0, none⟩ = some (.pointer (some ⟨b, 0, none⟩)) ∧ w'.cell? ⟨b, 1, none⟩ = some (.slice (some ⟨gr, 0, none⟩) l.length rc) ∧ w'.cell? ⟨gr, i * 2, none⟩ = some (.int .i64 t.o) ∧ w'.cell? ⟨gr, i * 2 + 1, none⟩ = some (.int .i64 t.p)) (by kernel_rfl) (hSS _ (grown_drew W none)) (fun hHeld => ?_)
  refine wpAnyH_take (i := 0) (oi := { dst := some 5, op := Op.load 232 (Operand.tmp 1), type := 232, pos := "index.go:151", after := #[], guard := none }) (v := ?_) rfl (by kernel_rfl) (by kernel_rfl) (by kernel_rfl) (fun _ _ _ h => h) (Or.inl ⟨by rfl, ?_⟩) (by assumption) ?_
  rotate_left
  · intro w hSw; (try dsimp only at hSw); go_simp
    try with_reducible rfl
  try simp only [Act.put, List.setIfInBounds_toArray, List.set_cons_zero, List.set_cons_succ]
  refine wpAnyH_take (i := 1) (oi := { dst := some 6, op := Op.load 100 (Operand.tmp 2), type := 100, pos := "index.go:151", after := #[], guard := none }) (v := ?_) rfl (by kernel_rfl) (by kernel_rfl) (by kernel_rfl) (fun _ _ _ h => h) (Or.inl ⟨by rfl, ?_⟩) (by assumption) ?_
  rotate_left
  · intro w hSw; (try dsimp only at hSw); go_simp
    try with_reducible rfl
  try simp only [Act.put, List.setIfInBounds_toArray, List.set_cons_zero, List.set_cons_succ]
  refine wpAnyH_take (i := 2) (oi := { dst := some 7, op := Op.nilCheck (Operand.tmp 6), type := 0, pos := "index.go:151", after := #[{ on := 1, ground := Ground.data }], guard := none }) (v := ?_) rfl (by kernel_rfl) (by kernel_rfl) (by kernel_rfl) (fun _ _ _ h => h) (Or.inl ⟨by rfl, ?_⟩) (by assumption) ?_
  rotate_left
  · intro w hSw; (try dsimp only at hSw); go_simp
    try with_reducible rfl
  try simp only [Act.put, List.setIfInBounds_toArray, List.set_cons_zero, List.set_cons_succ]
  refine wpAnyH_take (i := 3) (oi := { dst := some 8, op := Op.fieldAddr 229 (Operand.tmp 7) 1, type := 0, pos := "index.go:151", after := #[{ on := 2, ground := Ground.data }], guard := none }) (v := ?_) rfl (by kernel_rfl) (by kernel_rfl) (by kernel_rfl) (fun _ _ _ h => h) (Or.inl ⟨by rfl, ?_⟩) (by assumption) ?_
  rotate_left
  · intro w hSw; (try dsimp only at hSw); go_simp
    try with_reducible rfl
  try simp only [Act.put, List.setIfInBounds_toArray, List.set_cons_zero, List.set_cons_succ]
  refine wpAnyH_take (i := 4) (oi := { dst := some 9, op := Op.load 123 (Operand.tmp 8), type := 123, pos := "index.go:151", after := #[{ on := 3, ground := Ground.data }], guard := none }) (v := ?_) rfl (by kernel_rfl) (by kernel_rfl) (by kernel_rfl) (fun _ _ _ h => h) (Or.inl ⟨by rfl, ?_⟩) (by assumption) ?_
  rotate_left
  · intro w hSw; (try dsimp only at hSw); go_simp
    try with_reducible rfl
  try simp only [Act.put, List.setIfInBounds_toArray, List.set_cons_zero, List.set_cons_succ]
  refine wpAnyH_take (i := 5) (oi := { dst := some 10, op := Op.move (Operand.tmp 0), type := 3, pos := "index.go:151", after := #[], guard := none }) (v := ?_) rfl (by kernel_rfl) (by kernel_rfl) (by kernel_rfl) (fun _ _ _ h => h) (Or.inl ⟨by rfl, ?_⟩) (by assumption) ?_
  rotate_left
  · intro w hSw; (try dsimp only at hSw); go_simp
    try with_reducible rfl
  try simp only [Act.put, List.setIfInBounds_toArray, List.set_cons_zero, List.set_cons_succ]
  refine wpAnyH_take (i := 6) (oi := { dst := some 11, op := Op.indexAddr 123 (Operand.tmp 9) (Operand.tmp 10), type := 0, pos := "index.go:151", after := #[{ on := 4, ground := Ground.data }, { on := 5, ground := Ground.data }], guard := none }) (v := ?_) rfl (by kernel_rfl) (by kernel_rfl) (by kernel_rfl) (fun _ _ _ h => h) (Or.inl ⟨by rfl, ?_⟩) (by assumption) ?_
  rotate_left
  · intro w hSw; (try dsimp only at hSw); go_simp
    try with_reducible rfl
  try simp only [Act.put, List.setIfInBounds_toArray, List.set_cons_zero, List.set_cons_succ]
  refine wpAnyH_take (i := 7) (oi := { dst := some 12, op := Op.load 138 (Operand.tmp 11), type := 138, pos := "index.go:151", after := #[{ on := 6, ground := Ground.data }], guard := none }) (v := ?_) rfl (by kernel_rfl) (by kernel_rfl) (by kernel_rfl) (fun _ _ _ h => h) (Or.inl ⟨by rfl, ?_⟩) (by assumption) ?_
  rotate_left
  · intro w hSw; (try dsimp only at hSw); go_simp
    try with_reducible rfl
  try simp only [Act.put, List.setIfInBounds_toArray, List.set_cons_zero, List.set_cons_succ]
  refine wpAnyH_ready (rs := [8]) (by kernel_rfl) (by simp) ?_
  refine AllReadyH.cons (o := { dst := some 13, op := Op.call { callee := Callee.value (Operand.tmp 5), args := #[Operand.tmp 12], argTypes := #[138] }, type := 4, pos := "index.go:151", after := #[{ on := 0, ground := Ground.data }, { on := 7, ground := Ground.data }], guard := none }) rfl (fun K hK => ?_) AllReadyH.nil
  have eg' := eg
  go_simp
  refine hcl.mono ?_
  rintro e w2 ⟨rfl, rfl⟩
  try go_simp
  refine hK.out _ _ (hSS _ (grown_trans (grown_drew W none) (alloc_grown _ _) (by simp))) (fun hHeld => ?_)
  clear hK K
  try simp only [Act.put, List.setIfInBounds_toArray, List.set_cons_zero, List.set_cons_succ]
  refine wpAnyH_take (i := 9) (oi := { dst := some 4, op := Op.assign (Operand.tmp 13), type := 4, pos := "index.go:151", after := #[{ on := 8, ground := Ground.data }, { on := 8, ground := Ground.chain }, { on := 0, ground := Ground.phase }, { on := 1, ground := Ground.phase }, { on := 2, ground := Ground.phase }, { on := 3, ground := Ground.phase }, { on := 4, ground := Ground.phase }, { on := 5, ground := Ground.phase }, { on := 6, ground := Ground.phase }, { on := 7, ground := Ground.phase }, { on := 8, ground := Ground.phase }], guard := none }) (v := ?_) rfl (by kernel_rfl) (by kernel_rfl) (by kernel_rfl) (fun _ _ _ h => h) (Or.inl ⟨by rfl, ?_⟩) (by assumption) ?_
  rotate_left
  · intro w hSw; (try dsimp only at hSw); go_simp
    try with_reducible rfl
  try simp only [Act.put, List.setIfInBounds_toArray, List.set_cons_zero, List.set_cons_succ]
  refine wpAnyH_done (by kernel_rfl) ?_ _
  clear hHeld hSS hcl
  go_wp2
  go_ret
  exact ⟨rfl, 1, #[.cells #[.int .i64 t.o, .int .i64 t.p] 138], by rw [alloc_eq_grow]; rfl⟩
end Go.Proofs.YtlghcboenkglnaaGreatDoor.Idx

/-
  count, last, Find, At.
-/
namespace Go.Proofs.YtlghcboenkglnaaGreatDoor.Idx
open Go.Proofs.YtlghcboenkglnaaGreatDoor
open Go.RowKit Go.Sort
set_option linter.unusedVariables false

/-- Spots that rise. -/
def Srt (l : List Sd) : Prop := l.Pairwise (fun s t => s.o < t.o ∧ s.p < t.p)
/-- How many stand ahead of the first that is behind. -/
def cnt (pB : Sd → Bool) (l : List Sd) : Nat := l.countP (fun s => !pB s)
theorem cnt_le (pB : Sd → Bool) (l : List Sd) : cnt pB l ≤ l.length := List.countP_le_length
theorem cnt_range (pB : Sd → Bool) (l : List Sd) : (List.range l.length).countP (fun i => !pB (l.getD i Sd.no)) = cnt pB l := by
  unfold cnt
  have h : l = (List.range l.length).map (fun i => l.getD i Sd.no) := by
    apply List.ext_getElem
    · simp
    · intro i h1 h2
      simp [h1]
  conv => rhs; rw [h]
  rw [List.countP_map]
  rfl
theorem mono_of {pB : Sd → Bool} {l : List Sd} (hs : Srt l) (hp : ∀ s t : Sd, s.o < t.o → s.p < t.p → pB s = true → pB t = true) : ∀ a b, a ≤ b → b < l.length → pB (l.getD a Sd.no) = true → pB (l.getD b Sd.no) = true := by
  intro a b hab hb h
  rcases Nat.lt_or_eq_of_le hab with hlt | rfl
  · have h9 := (List.pairwise_iff_getElem.1 hs) a b (by omega) hb hlt
    rw [show l.getD a Sd.no = l[a] by simp [show a < l.length by omega]] at h
    rw [show l.getD b Sd.no = l[b] by simp [hb]]
    exact hp _ _ h9.1 h9.2 h
  · exact h
section
variable {w w' : World} {base b : Nat} {st : Int} {l : List Sd}

set_option maxRecDepth 100000 in
set_option maxHeartbeats 1000000 in
theorem count_any (h : Xd w base b st l) (g z : Nat) (pB : Sd → Bool) (hS : Says w g z pB) (eg : ∀ args w, (callFunc g args).run Tryz.prog w = .ok (.enter g args) w) (hm : ∀ a b, a ≤ b → b < l.length → pB (l.getD a Sd.no) = true → pB (l.getD b Sd.no) = true) :
    Calls Tryz.prog 163 #[.pointer (some ⟨b, 0, none⟩), .func (.func g) #[] #[.pointer (some ⟨z, 0, none⟩)]] w fun e w' => e = .returned (.int .i64 (cnt pB l : Nat)) ∧ w.grownBy w' none := by
  have hmf := hmf
  have hg1 := alloc_grown w (.cells #[.pointer (some ⟨b, 0, none⟩)] 100)
  have hg2 := alloc_grown (w.alloc (.cells #[.pointer (some ⟨b, 0, none⟩)] 100)) (.cells #[.func (.func g) #[] #[.pointer (some ⟨z, 0, none⟩)]] 232)
  have hg := grown_trans hg1 hg2 (by simp)
  have b2 := box_own (Boxed.new w 100 (.pointer (some ⟨b, 0, none⟩))) hg2 (fun r e => by cases e)
  have b3 := Boxed.new (w.alloc (.cells #[.pointer (some ⟨b, 0, none⟩)] 100)) 232 (.func (.func g) #[] #[.pointer (some ⟨z, 0, none⟩)])
  rw [World.size_alloc] at b3
  have hX := h.grown hg
  obtain ⟨⟨ro, rc, hi, hr⟩, _, hf⟩ := h.grown hg
  have k2 := b2.cell
  have c1 := hi.c1
  go_enter Tryz.func163, Tryz.ntmps163
  go_wp2_with fail
  generalize (w.alloc (.cells #[.pointer (some ⟨b, 0, none⟩)] 100)).alloc (.cells #[.func (.func g) #[] #[.pointer (some ⟨z, 0, none⟩)]] 232) = w2 at *
  have hse := Any.sort_Search (P := Tryz.prog) (ρ := Tryz.searchL_ren) Tryz.searchL 176 #[.pointer (some ⟨w.heap.size + 1, 0, none⟩), .pointer (some ⟨w.heap.size, 0, none⟩)] l.length (fun i => pB (l.getD i Sd.no)) w2 (enters_of Tryz.func176 (by kernel_rfl) rfl) (by omega)
    (fun m os i hi => by
      have hgw := grow_grown w2 m os
      exact clo45 _ (hX.grown hgw) (fun W s hW => hS W s (grown_trans (grown_trans hg hgw (by simp)) hW (by simp))) eg (hgw.cell b3.cell (by simp)) (hgw.cell b2.cell (by simp)) i hi) hm
  rw [cnt_range] at hse
  refine (show Calls Tryz.prog 175 _ w2 _ from hse).mono ?_
  rintro e w3 ⟨rfl, q, os, rfl⟩
  have hgf := grown_trans hg (grow_grown w2 q os) (by simp)
  clear hse k2 c1
  go_wp2
  go_ret
  exact ⟨rfl, hgf⟩
/-- What is found. -/
def lastR (pB : Sd → Bool) (l : List Sd) : Sd × Bool := if cnt pB l = 0 then (⟨0, 0⟩, false) else (ahead l (cnt pB l), true)
set_option maxRecDepth 100000 in
set_option maxHeartbeats 1000000 in
theorem last_any (h : Xd w base b st l) (hD : Dt w) (h1 : 1 ≤ st) (hgood : Good l) (g z : Nat) (pB : Sd → Bool) (hS : Says w g z pB) (eg : ∀ args w, (callFunc g args).run Tryz.prog w = .ok (.enter g args) w) (hm : ∀ a b, a ≤ b → b < l.length → pB (l.getD a Sd.no) = true → pB (l.getD b Sd.no) = true) :
    Calls Tryz.prog 142 #[.pointer (some ⟨b, 0, none⟩), .func (.func g) #[] #[.pointer (some ⟨z, 0, none⟩)]] w fun e w' => e = .returned (.tuple #[(lastR pB l).1.val, .bool (lastR pB l).2]) ∧ w.grownBy w' none := by
  obtain ⟨t, ht⟩ : ∃ t, ahead l (cnt pB l) = t := ⟨_, rfl⟩
  have hz : isNo t = decide (cnt pB l = 0) := by
    rw [← ht]
    unfold isNo
    cases hk : cnt pB l with
    | zero => rfl
    | succ k =>
      have hkl : k < l.length := by have := cnt_le pB l; omega
      have := hgood l[k] (List.getElem_mem hkl)
      have ha : ahead l (k + 1) = l[k] := by simp [ahead, hkl]
      rw [ha]
      simp
      omega
  have hR : lastR pB l = if isNo t = true then (⟨0, 0⟩, false) else (t, true) := by
    unfold lastR
    rw [hz, ht]
    simp
  rw [hR]
  clear hR hz
  by_cases hno : isNo t = true
  · rw [if_pos hno]
    unfold Sd.val
    have hga := alloc_grown w (.cells #[.int .i64 0, .int .i64 0] 138)
    have hb0 := Sb.new w 0 0
    have hma : Calls Tryz.prog 129 _ _ _ := made_yes (st := st) (b := b) (w := w.alloc (.cells #[.int .i64 0, .int .i64 0] 138)) (by obtain ⟨⟨_, _, hi, _⟩, _, _⟩ := h.grown hga; exact hi.c0) h1
    have hco := count_any (h.grown hga) g z pB (fun W s hW => hS W s (grown_trans hga hW (by simp))) eg hm
    go_enter Tryz.func142, Tryz.ntmps142
    go_wp2_with fail
    refine hma.mono ?_
    rintro e w1 ⟨rfl, rfl⟩
    go_wp2_with fail
    generalize w.alloc (.cells #[.int .i64 0, .int .i64 0] 138) = w1 at *
    refine hco.mono ?_
    rintro e w2 ⟨rfl, hg2⟩
    have hG2 := grown_trans hga hg2 (by simp)
    have hah := ahead_any (h.grown hG2) (hD.grown hG2) (cnt pB l) (cnt_le pB l)
    go_wp2_with fail
    refine hah.mono ?_
    rintro e w3 ⟨rfl, hg3⟩
    have hG3 := grown_trans hG2 hg3 (by simp)
    rw [ht]
    unfold Sd.val
    have hb3 := ((hb0.grown hg2).grown hg3).grown (alloc_grown w3 (.cells #[.int .i64 t.o, .int .i64 t.p] 138))
    have hD4 := (hD.grown hG3).grown (alloc_grown w3 (.cells #[.int .i64 t.o, .int .i64 t.p] 138))
    have hs4 := Sb.new w3 t.o t.p
    have hG4 := grown_trans hG3 (alloc_grown w3 (.cells #[.int .i64 t.o, .int .i64 t.p] 138)) (by simp)
    have e0 := hs4.c0
    have e1 := hs4.c1
    have d0 := hD4.c0
    have d1 := hD4.c1
    have eb := eq33
    have c0 := hb3.c0
    have c1 := hb3.c1
    have f0 := hb3.fz 0
    have f1 := hb3.fz 1
    clear hma hco hah hgood hm hS eg ht
    unfold isNo at hno
    have hw := hb3.set 0 0
    have hgw : w.grownBy _ none := ((Chg.of_grown hG4 _).trans (set2_chg _ w.heap.size (.int .i64 0) (.int .i64 0))).grown (fun k hk e => by omega)
    have v0 := hw.c0
    have v1 := hw.c1
    go_wp2
    exact bodyPost_ret (v := .tuple #[.agg #[.int .i64 0, .int .i64 0], .bool false]) (by simp [results, Tryz.results142, go_sem, v0, v1]) rfl ⟨rfl, hgw⟩
  · rw [if_neg hno]
    unfold Sd.val
    have hga := alloc_grown w (.cells #[.int .i64 0, .int .i64 0] 138)
    have hb0 := Sb.new w 0 0
    have hma : Calls Tryz.prog 129 _ _ _ := made_yes (st := st) (b := b) (w := w.alloc (.cells #[.int .i64 0, .int .i64 0] 138)) (by obtain ⟨⟨_, _, hi, _⟩, _, _⟩ := h.grown hga; exact hi.c0) h1
    have hco := count_any (h.grown hga) g z pB (fun W s hW => hS W s (grown_trans hga hW (by simp))) eg hm
    go_enter Tryz.func142, Tryz.ntmps142
    go_wp2_with fail
    refine hma.mono ?_
    rintro e w1 ⟨rfl, rfl⟩
    go_wp2_with fail
    generalize w.alloc (.cells #[.int .i64 0, .int .i64 0] 138) = w1 at *
    refine hco.mono ?_
    rintro e w2 ⟨rfl, hg2⟩
    have hG2 := grown_trans hga hg2 (by simp)
    have hah := ahead_any (h.grown hG2) (hD.grown hG2) (cnt pB l) (cnt_le pB l)
    go_wp2_with fail
    refine hah.mono ?_
    rintro e w3 ⟨rfl, hg3⟩
    have hG3 := grown_trans hG2 hg3 (by simp)
    rw [ht]
    unfold Sd.val
    have hb3 := ((hb0.grown hg2).grown hg3).grown (alloc_grown w3 (.cells #[.int .i64 t.o, .int .i64 t.p] 138))
    have hD4 := (hD.grown hG3).grown (alloc_grown w3 (.cells #[.int .i64 t.o, .int .i64 t.p] 138))
    have hs4 := Sb.new w3 t.o t.p
    have hG4 := grown_trans hG3 (alloc_grown w3 (.cells #[.int .i64 t.o, .int .i64 t.p] 138)) (by simp)
    have e0 := hs4.c0
    have e1 := hs4.c1
    have d0 := hD4.c0
    have d1 := hD4.c1
    have eb := eq33
    have c0 := hb3.c0
    have c1 := hb3.c1
    have f0 := hb3.fz 0
    have f1 := hb3.fz 1
    clear hma hco hah hgood hm hS eg ht
    unfold isNo at hno
    rw [Bool.not_eq_true] at hno
    have hw := hb3.set t.o t.p
    have hgw : w.grownBy _ none := ((Chg.of_grown hG4 _).trans (set2_chg _ w.heap.size (.int .i64 t.o) (.int .i64 t.p))).grown (fun k hk e => by omega)
    have v0 := hw.c0
    have v1 := hw.c1
    go_wp2
    exact bodyPost_ret (v := .tuple #[.agg #[.int .i64 t.o, .int .i64 t.p], .bool true]) (by simp [results, Tryz.results142, go_sem, v0, v1]) rfl ⟨rfl, hgw⟩
end
end Go.Proofs.YtlghcboenkglnaaGreatDoor.Idx
