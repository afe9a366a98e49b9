/-
  goes: a going over All; the law's All.
-/
import Derived.Test.YtmnfdiffneobpaaT12
import Derived.Test.YtmnfdiffneobpaaW3
import Derived.Test.YtmnfdiffneobpaaE3
import Derived.Test.YtmnfdiffneobpaaK2
import Derived.Test.YtmnfdiffneobpaaQ2
namespace Go.Proofs.Ytmnfdiffneobpaa
open Go.RowKit Go.Shelf
set_option linter.unusedVariables false
attribute [local go_sem] Oper.semAt_some

theorem run_equalIn_fn (w : World) (d : Nat) (t : TypeId) (ps rs : Array TypeId) (vd : Bool) (ht : Try.prog.underlying t = some (.func ps rs vd)) (fn : Fn) (fi ca : Array Value) : (Op.equalIn (d + 1) t (.func fn fi ca) .nilFunc).run Try.prog w = .ok false w := by
  simp [Op.equalIn, run_underlying ht]
theorem run_equal_fn (w : World) (t : TypeId) (ps rs : Array TypeId) (vd : Bool) (ht : Try.prog.underlying t = some (.func ps rs vd)) (fn : Fn) (fi ca : Array Value) : (Op.equal t (.func fn fi ca) .nilFunc).run Try.prog w = .ok false w := run_equalIn_fn w 9999 t ps rs vd ht fn fi ca
theorem run_eql_fn (w : World) (t : TypeId) (ps rs : Array TypeId) (vd : Bool) (ht : Try.prog.underlying t = some (.func ps rs vd)) (fn : Fn) (fi ca : Array Value) : (binOp .eql t (.func fn fi ca) .nilFunc).run Try.prog w = .ok (.bool false) w := by
  simp only [binOp]
  simp [run_equal_fn w t ps rs vd ht fn fi ca]
theorem results_bool {fn : Func} {p : Tmp} (h : fn.results = #[.cell p 4]) (tmps : Array Value) (w : World) (g : Nat) (b : Bool) (hp : tmps.getD p undef = .pointer (some ⟨g, 0, none⟩)) (hc : w.cell? ⟨g, 0, none⟩ = some (.bool b)) : (results fn tmps).run Try.prog w = .ok (.bool b) w := by
  simp only [results, h]
  have hp' : tmps[p]?.getD undef = .pointer (some ⟨g, 0, none⟩) := by simpa using hp
  simp [Sem.run_bind, Result.andThen, hp', asAddr, loadVar, go_sem, hc]
/-- The cells of goes: the list, how far, the answer, the count. -/
structure Gs (W : World) (s : Nat) (sl lv : Value) (r : Bool) (n : Nat) : Prop where
  b0 : Boxed W s 33 sl
  b1 : Boxed W (s + 1) 3 lv
  b2 : Boxed W (s + 1 + 1) 4 (.bool r)
  b3 : Boxed W (s + 1 + 1 + 1) 3 (.int .i64 n)
theorem Gs.own {A B : World} {row : Option Nat} {s : Nat} {sl lv : Value} {r : Bool} {n : Nat} (h : Gs A s sl lv r n) (hg : A.grownBy B row) (hr : ∀ r, row = some r → ∃ o : Obj, A.heap[r]? = some o ∧ o.isCells = false) : Gs B s sl lv r n :=
  ⟨box_own h.b0 hg hr, box_own h.b1 hg hr, box_own h.b2 hg hr, box_own h.b3 hg hr⟩
theorem Gs.count {W : World} {s : Nat} {sl lv : Value} {r : Bool} {n : Nat} (h : Gs W s sl lv r n) (k : Nat) : Gs (W.setCell ⟨s + 1 + 1 + 1, 0, none⟩ (.int .i64 k)) s sl lv r k :=
  ⟨h.b0.other (by omega) _, h.b1.other (by omega) _, h.b2.other (by omega) _, h.b3.set _⟩
theorem Gs.answer {W : World} {s : Nat} {sl lv : Value} {r : Bool} {n : Nat} (h : Gs W s sl lv r n) (q : Bool) : Gs (W.setCell ⟨s + 1 + 1, 0, none⟩ (.bool q)) s sl lv q n :=
  ⟨h.b0.other (by omega) _, h.b1.other (by omega) _, h.b2.set _, h.b3.other (by omega) _⟩

set_option maxRecDepth 100000 in
set_option maxHeartbeats 4000000 in
theorem goes_any {w : World} (z base base2 : Nat) (ro go : Option Addr) (rc gc : Nat) (leave : Int) (l : List Sd) (hz : Boxed w z 33 (.slice ro l.length rc)) (hs : Sw w base ro l.length rc l) (hS : Sw w base2 go l.length gc l) (hl : l.length ≤ 80000) :
    Calls Try.prog 46 #[.func (.func 63) #[] #[.pointer (some ⟨z, 0, none⟩)], .slice go l.length gc, .int .i64 leave] w fun e w' => e = .returned (.bool true) ∧ w.grownBy w' none := by
  refine (callsIn_wide (n := 5)).1 ?_
  refine callsIn_of_wp_marks Try.func46 rfl trivial ?_
  simp only [Try.ntmps46, List.size_toArray, List.length_cons, List.length_nil, Nat.reduceAdd, Nat.reduceSub, Array.replicate_succ, Array.replicate_zero, List.push_toArray, List.append_toArray, List.nil_append, List.cons_append]
  have heq := fun W => run_eql_fn W 66 _ _ _ Try.underlying66 (.func 63) #[] #[.pointer (some ⟨z, 0, none⟩)]
  have hzl := hz.lt
  gi_wp2
  obtain ⟨W0, hW0⟩ : ∃ W0, (((w.alloc (.cells #[.slice go l.length gc] 33)).alloc (.cells #[.int .i64 leave] 3)).alloc (.cells #[.bool false] 4)).alloc (.cells #[.int .i64 0] 3) = W0 := ⟨_, rfl⟩
  have hB0 : Below w.heap.size w W0 := by
    rw [← hW0]
    exact ((((Below.refl _ w).alloc (Nat.le_refl _) _).alloc (by simp) _).alloc (by simp; omega) _).alloc (by simp; omega) _
  have hG0 : Gs W0 w.heap.size (.slice go l.length gc) (.int .i64 leave) false 0 := by
    rw [← hW0]
    refine ⟨(((Boxed.new w 33 _).alloc _).alloc _).alloc _, ?_, ?_, ?_⟩
    · have := ((Boxed.new (w.alloc (.cells #[.slice go l.length gc] 33)) 3 (.int .i64 leave)).alloc (.cells #[.bool false] 4)).alloc (.cells #[.int .i64 0] 3)
      rwa [World.size_alloc] at this
    · have := (Boxed.new ((w.alloc (.cells #[.slice go l.length gc] 33)).alloc (.cells #[.int .i64 leave] 3)) 4 (.bool false)).alloc (.cells #[.int .i64 0] 3)
      rwa [World.size_alloc, World.size_alloc] at this
    · have := Boxed.new (((w.alloc (.cells #[.slice go l.length gc] 33)).alloc (.cells #[.int .i64 leave] 3)).alloc (.cells #[.bool false] 4)) 3 (.int .i64 0)
      rwa [World.size_alloc, World.size_alloc, World.size_alloc] at this
  rw [hW0]
  have hsz0 : w.heap.size + 4 ≤ W0.heap.size := by rw [← hW0]; simp
  clear hW0
  have hg0 := below_grownBy hB0
  have hz0 : Boxed W0 z 33 (.slice ro l.length rc) := box_own hz hg0 (fun r e => by cases e)
  have hs0 := hs.chg (Chg.of_grown hg0 (fun _ => False)) (fun _ _ e => e)
  have hKl : ∀ q, (q = z ∨ blk ro = some q) → q < w.heap.size := fun q e => by
    rcases e with rfl | e
    · exact hzl
    · exact (hs.from_base q e).2
  have hKo : ∀ (W : World) (b : Nat) (v : Value), w.heap.size ≤ b → Stay (fun q => q = z ∨ blk ro = some q) W (W.setCell ⟨b, 0, none⟩ v) := fun W b v hb => ⟨by simp, fun q hq => Below.heap_setCell _ _ _ _ (by have := hKl q hq; show q ≠ b; omega)⟩
  apply wpIn_rangeFunc_told (α := Sd) (encs := fun t => #[t.val]) (Kp := Stay (fun q => q = z ∨ blk ro = some q)) (w0 := W0) rfl (by decide) (gf := 63) (lb := #[.pointer (some ⟨z, 0, none⟩)]) rfl trivial (enters_of Try.func63 (by kernel_rfl) rfl)
    (all1_stay 4 (by decide) W0 z base (fun q => q = z ∨ blk ro = some q) ro l.length rc l hz0 hs0 (Or.inl rfl) (fun q e => Or.inr e) (fun q e => by have := hKl q e; omega) (by omega)) (fun h1 h2 => h1.trans h2)
    (fun W q o1 o2 hq h1 h2 h3 => ⟨by simp, fun i hi => World.putObj_heap_other (by have := hKl i hi; omega)⟩) (Below.refl _ _) (fun _ => rfl)
    (fun pre W => Gs W w.heap.size (.slice go l.length gc) (.int .i64 leave) false pre.length ∧ Below w.heap.size w W)
    (fun cd pre W => cd = .ret ∧ (∃ k, Gs W w.heap.size (.slice go l.length gc) (.int .i64 leave) true k) ∧ Below w.heap.size w W)
    (fun s A B row hs hg hr => ⟨hs.1.own hg (fun r e => (hr r e).2), (ownFrom_below (β := Unit) (Nat.le_refl _) (by omega)) () A B row hs.2 hg hr⟩)
    (fun cd s A B row hs hg hr => ⟨hs.1, by obtain ⟨k, h1⟩ := hs.2.1; exact ⟨k, h1.own hg (fun r e => (hr r e).2)⟩, (ownFrom_below (β := Unit) (Nat.le_refl _) (by omega)) () A B row hs.2.2 hg hr⟩)
    ⟨hG0, hB0⟩
    (fun pre x a' W' => l[pre.length]? = some x ∧ ∃ gx, Sb W' gx x.o x.p ∧ w.heap.size + 4 ≤ gx ∧ a' = { tmps := #[.func (.func 63) #[] #[.pointer (some ⟨z, 0, none⟩)], .slice go l.length gc, .int .i64 leave, undef, .pointer (some ⟨w.heap.size, 0, none⟩), .pointer (some ⟨w.heap.size + 1, 0, none⟩), .pointer (some ⟨w.heap.size + 1 + 1, 0, none⟩), .pointer (some ⟨w.heap.size + 1 + 1 + 1, 0, none⟩), .pointer (some ⟨gx, 0, none⟩), .func (.func 63) #[] #[.pointer (some ⟨z, 0, none⟩)], .bool false, .func (.func 63) #[] #[.pointer (some ⟨z, 0, none⟩)], .agg #[.int .i64 x.o, .int .i64 x.p], undef, undef, undef, undef, undef, undef, undef, undef, undef, undef, undef, undef, undef, undef, undef, undef, undef, undef, undef, undef, undef], defers := [] })
  case hAx =>
    rintro pre x a' ⟨⟩ A B row ⟨h1, gx, h2, h3, h4⟩ hg hr
    exact ⟨h1, gx, h2.own hg (fun r e => (hr r e).2), h3, h4⟩
  case hassign =>
    intro pre x W' K hI hT hK
    simp only [Sd.val]
    have ga := alloc_grown W' (.cells #[.int .i64 x.o, .int .i64 x.p] 64)
    have k9 := Sb.new W' x.o x.p
    obtain ⟨i1, i2⟩ := hI
    have i4 := i1.b3.lt
    have hst : Stay (fun q => q = z ∨ blk ro = some q) W' (W'.alloc (.cells #[.int .i64 x.o, .int .i64 x.p] 64)) := Stay.grown ga (fun q hq => by have := hKl q hq; have := i2.size; omega)
    have i1' := i1.own ga (fun r e => by cases e)
    have i2' : Below w.heap.size w (W'.alloc (.cells #[.int .i64 x.o, .int .i64 x.p] 64)) := i2.alloc i2.size _
    clear i1 i2
    gi_wp2
    exact hK _ _ ((KeepsOthers.alloc W' _).from _) hst ⟨i1', i2'⟩ ⟨hT, W'.heap.size, k9, by omega, rfl⟩
  case hbody =>
    rintro pre x a' W' ⟨qq, hqq⟩ ⟨i1, i2⟩ ⟨hx1, gx, hgx, hgx0, rfl⟩
    have hpl : pre.length < l.length := (List.getElem?_eq_some_iff.1 hx1).1
    obtain ⟨gg, rfl, _, _⟩ := hS.addr (by omega)
    have hgd := grown_drew W' none
    have i2g := below_grownBy i2
    have i3d := grown_trans i2g hgd (by simp)
    have hSd := hS.chg (Chg.of_grown i3d (fun _ => False)) (fun _ _ e => e)
    have s3 := hSd.at hx1 0 (by decide)
    have s4 := hSd.at hx1 1 (by decide)
    simp only [Sd.cells, List.getElem?_cons_zero, List.getElem?_cons_succ, Nat.add_zero] at s3 s4
    have hgxd := hgx.own hgd (fun r e => by cases e)
    have i1d := i1.own hgd (fun r e => by cases e)
    have i2d : Below w.heap.size w W'.drew := grownBy_below i3d
    have s0 := i1d.b3.cell
    have s1 := i1d.b0.cell
    have s5 := hgxd.c0
    have s6 := hgxd.c1
    have nb := ne64
    have d1 : decide ((pre.length : Int) ≥ (l.length : Int)) = false := by simp; omega
    have d1b : decide ((l.length : Int) ≤ (pre.length : Int)) = false := by simp; omega
    have d1c : decide (l.length ≤ pre.length) = false := by simp; omega
    have d2 : (!(decide (x.o = x.o) && decide (x.p = x.p))) = false := by simp
    have j1 : (0 : Int) ≤ (pre.length : Int) := by omega
    have j2 : (pre.length : Int) < (l.length : Int) := by omega
    have hKd := KeepsFrom.of_grownBy (B := W0.heap.size) hgd (fun j e => by cases e)
    have hSt : Stay (fun q => q = z ∨ blk ro = some q) W' W'.drew := Stay.grown hgd (fun q hq => by have := hKl q hq; have := i2.size; omega)
    clear hSd hS i2 i1
    gi_wp2_with fail
    refine wpIn_region_round (S := fun w' => w'.cell? ⟨w.heap.size + 1 + 1 + 1, 0, none⟩ = some (.int .i64 (pre.length : Int)) ∧ w'.cell? ⟨w.heap.size, 0, none⟩ = some (.slice (some ⟨gg, 0, none⟩) l.length gc) ∧ w'.cell? ⟨gg, pre.length * 2, none⟩ = some (.int .i64 x.o) ∧ w'.cell? ⟨gg, pre.length * 2 + 1, none⟩ = some (.int .i64 x.p) ∧ w'.cell? ⟨gx, 0, none⟩ = some (.int .i64 x.o) ∧ w'.cell? ⟨gx, 1, none⟩ = some (.int .i64 x.p)) (by kernel_rfl) (by kernel_rfl) (by rintro ⟨_, _, h⟩; exact h) ⟨s0, s1, s3, s4, s5, s6⟩ (fun hHeld => ?_)
    refine wpAnyH_take (i := 0) (oi := { dst := some 13, op := Op.load 3 (Operand.tmp 7), type := 3, pos := "law.go:48", after := #[], guard := none }) (v := ?_) rfl (by kernel_rfl) (by kernel_rfl) (by kernel_rfl) (fun _ _ _ h => h) (Or.inl ⟨by rfl, ?_⟩) (by assumption) ?_
    rotate_left
    · intro w hSw; (try dsimp only at hSw); go_simp
      try with_reducible rfl
    try simp only [Act.put, List.setIfInBounds_toArray, List.set_cons_zero, List.set_cons_succ]
    refine wpAnyH_take (i := 1) (oi := { dst := some 14, op := Op.load 33 (Operand.tmp 4), type := 33, pos := "law.go:48", after := #[], guard := none }) (v := ?_) rfl (by kernel_rfl) (by kernel_rfl) (by kernel_rfl) (fun _ _ _ h => h) (Or.inl ⟨by rfl, ?_⟩) (by assumption) ?_
    rotate_left
    · intro w hSw; (try dsimp only at hSw); go_simp
      try with_reducible rfl
    try simp only [Act.put, List.setIfInBounds_toArray, List.set_cons_zero, List.set_cons_succ]
    refine wpAnyH_take (i := 2) (oi := { dst := some 15, op := Op.call { callee := Callee.builtin Builtin.len, args := #[Operand.tmp 14], argTypes := #[33] }, type := 3, pos := "law.go:48", after := #[{ on := 1, ground := Ground.data }], guard := none }) (v := ?_) rfl (by kernel_rfl) (by kernel_rfl) (by kernel_rfl) (fun _ _ _ h => h) (Or.inl ⟨by rfl, ?_⟩) (by assumption) ?_
    rotate_left
    · intro w hSw; (try dsimp only at hSw); go_simp
      try with_reducible rfl
    try simp only [Act.put, List.setIfInBounds_toArray, List.set_cons_zero, List.set_cons_succ]
    refine wpAnyH_take (i := 3) (oi := { dst := some 16, op := Op.binOp BinOp.geq 3 (Operand.tmp 13) (Operand.tmp 15) 3, type := 4, pos := "law.go:48", after := #[{ on := 0, ground := Ground.data }, { on := 2, ground := Ground.data }], guard := none }) (v := ?_) rfl (by kernel_rfl) (by kernel_rfl) (by kernel_rfl) (fun _ _ _ h => h) (Or.inl ⟨by rfl, ?_⟩) (by assumption) ?_
    rotate_left
    · intro w hSw; (try dsimp only at hSw); go_simp
      try with_reducible rfl
    try simp only [Act.put, List.setIfInBounds_toArray, List.set_cons_zero, List.set_cons_succ]
    refine wpAnyH_take (i := 4) (oi := { dst := some 17, op := Op.move (Operand.tmp 16), type := 4, pos := "law.go:48", after := #[{ on := 3, ground := Ground.data }], guard := none }) (v := ?_) rfl (by kernel_rfl) (by kernel_rfl) (by kernel_rfl) (fun _ _ _ h => h) (Or.inl ⟨by rfl, ?_⟩) (by assumption) ?_
    rotate_left
    · intro w hSw; (try dsimp only at hSw); go_simp
      try with_reducible rfl
    try simp only [Act.put, List.setIfInBounds_toArray, List.set_cons_zero, List.set_cons_succ]
    refine wpAnyH_take (i := 5) (oi := { dst := some 18, op := Op.load 64 (Operand.tmp 8), type := 64, pos := "law.go:48", after := #[{ on := 4, ground := Ground.guard }], guard := some (4, false) }) (v := ?_) rfl (by kernel_rfl) (by kernel_rfl) (by kernel_rfl) (fun _ _ _ h => h) (Or.inl ⟨by simp [Region.wanted, yielded], ?_⟩) (by assumption) ?_
    rotate_left
    · intro w hSw; (try dsimp only at hSw); go_simp
      try with_reducible rfl
    try simp only [Act.put, List.setIfInBounds_toArray, List.set_cons_zero, List.set_cons_succ]
    refine wpAnyH_take (i := 6) (oi := { dst := some 19, op := Op.load 33 (Operand.tmp 4), type := 33, pos := "law.go:48", after := #[{ on := 4, ground := Ground.guard }], guard := some (4, false) }) (v := ?_) rfl (by kernel_rfl) (by kernel_rfl) (by kernel_rfl) (fun _ _ _ h => h) (Or.inl ⟨by simp [Region.wanted, yielded], ?_⟩) (by assumption) ?_
    rotate_left
    · intro w hSw; (try dsimp only at hSw); go_simp
      try with_reducible rfl
    try simp only [Act.put, List.setIfInBounds_toArray, List.set_cons_zero, List.set_cons_succ]
    refine wpAnyH_take (i := 7) (oi := { dst := some 20, op := Op.load 3 (Operand.tmp 7), type := 3, pos := "law.go:48", after := #[{ on := 4, ground := Ground.guard }], guard := some (4, false) }) (v := ?_) rfl (by kernel_rfl) (by kernel_rfl) (by kernel_rfl) (fun _ _ _ h => h) (Or.inl ⟨by simp [Region.wanted, yielded], ?_⟩) (by assumption) ?_
    rotate_left
    · intro w hSw; (try dsimp only at hSw); go_simp
      try with_reducible rfl
    try simp only [Act.put, List.setIfInBounds_toArray, List.set_cons_zero, List.set_cons_succ]
    refine wpAnyH_take (i := 8) (oi := { dst := some 21, op := Op.indexAddr 33 (Operand.tmp 19) (Operand.tmp 20), type := 0, pos := "law.go:48", after := #[{ on := 6, ground := Ground.data }, { on := 7, ground := Ground.data }, { on := 4, ground := Ground.guard }], guard := some (4, false) }) (v := ?_) rfl (by kernel_rfl) (by kernel_rfl) (by kernel_rfl) (fun _ _ _ h => h) (Or.inl ⟨by simp [Region.wanted, yielded], ?_⟩) (by assumption) ?_
    rotate_left
    · intro w hSw; (try dsimp only at hSw); go_simp
      try with_reducible rfl
    try simp only [Act.put, List.setIfInBounds_toArray, List.set_cons_zero, List.set_cons_succ]
    refine wpAnyH_take (i := 9) (oi := { dst := some 22, op := Op.load 64 (Operand.tmp 21), type := 64, pos := "law.go:48", after := #[{ on := 8, ground := Ground.data }, { on := 4, ground := Ground.guard }], guard := some (4, false) }) (v := ?_) rfl (by kernel_rfl) (by kernel_rfl) (by kernel_rfl) (fun _ _ _ h => h) (Or.inl ⟨by simp [Region.wanted, yielded], ?_⟩) (by assumption) ?_
    rotate_left
    · intro w hSw; (try dsimp only at hSw); go_simp
      try with_reducible rfl
    try simp only [Act.put, List.setIfInBounds_toArray, List.set_cons_zero, List.set_cons_succ]
    refine wpAnyH_take (i := 10) (oi := { dst := some 23, op := Op.binOp BinOp.neq 64 (Operand.tmp 18) (Operand.tmp 22) 64, type := 4, pos := "law.go:48", after := #[{ on := 5, ground := Ground.data }, { on := 9, ground := Ground.data }, { on := 4, ground := Ground.guard }], guard := some (4, false) }) (v := ?_) rfl (by kernel_rfl) (by kernel_rfl) (by kernel_rfl) (fun _ _ _ h => h) (Or.inl ⟨by simp [Region.wanted, yielded], ?_⟩) (by assumption) ?_
    rotate_left
    · intro w hSw; (try dsimp only at hSw); go_simp
      try with_reducible rfl
    try simp only [Act.put, List.setIfInBounds_toArray, List.set_cons_zero, List.set_cons_succ]
    refine wpAnyH_take (i := 11) (oi := { dst := some 24, op := Op.pick (Operand.tmp 17) (Operand.const (Value.bool true)) (Operand.tmp 23), type := 4, pos := "law.go:48", after := #[{ on := 4, ground := Ground.data }, { on := 10, ground := Ground.data }], guard := none }) (v := ?_) rfl (by kernel_rfl) (by kernel_rfl) (by kernel_rfl) (fun _ _ _ h => h) (Or.inl ⟨by rfl, ?_⟩) (by assumption) ?_
    rotate_left
    · intro w hSw; (try dsimp only at hSw); go_simp
      try with_reducible rfl
    try simp only [Act.put, List.setIfInBounds_toArray, List.set_cons_zero, List.set_cons_succ]
    refine wpAnyH_done (by kernel_rfl) ?_ _
    clear s0 s1 s3 s4 s5 s6 hHeld hgxd i3d hgx i2g
    generalize W'.drew = V at *
    have k0 := i1d.b0.cell
    have k1 := i1d.b1.cell
    have k2 := i1d.b2.cell
    have k3 := i1d.b3.cell
    have f2 := i1d.b2.frozen
    have f3 := i1d.b3.frozen
    have hG2 := i1d.count (pre.length + 1)
    have hW2 : ((pre.length + 1 : Nat) : Int) = (pre.length : Int) + 1 := by omega
    rw [hW2] at hG2
    have m2 := hG2.b2.frozen
    have m2c := hG2.b2.cell
    have hB2 : Below w.heap.size w (V.setCell ⟨w.heap.size + 1 + 1 + 1, 0, none⟩ (.int .i64 ((pre.length : Int) + 1))) := i2d.setCell (by show w.heap.size ≤ w.heap.size + 1 + 1 + 1; omega) _
    have hBr : Stay (fun q => q = z ∨ blk ro = some q) W' (V.setCell ⟨w.heap.size + 1 + 1 + 1, 0, none⟩ (.int .i64 ((pre.length : Int) + 1))) := hSt.trans (hKo V _ _ (by omega))
    by_cases hle : (pre.length : Int) + 1 = leave
    · have hled : ((pre.length : Int) + 1 == leave) = true := by simpa using hle
      clear hle
      gi_wp2
      exact ⟨hKd.trans (((KeepsOthers.setCell _ _ _).trans (KeepsOthers.setCell _ _ _)).from _), rfl, ⟨_, hG2.answer true⟩, hB2.setCell (by show w.heap.size ≤ w.heap.size + 1 + 1; omega) _⟩
    · have hled : ((pre.length : Int) + 1 == leave) = false := by simpa using hle
      clear hle
      gi_wp2
      exact ⟨hKd.trans ((KeepsOthers.setCell _ _ _).from _), hBr, by rw [List.length_append]; exact hG2, hB2⟩
  case hdone =>
    rintro D ys W hD rfl ⟨hG, hB⟩ hK
    have k0 := hG.b0.cell
    have k3 := hG.b3.cell
    have k2 := hG.b2.cell
    have f2 := hG.b2.frozen
    gi_wp2
    have hG2 := hG.answer true
    have hB2 : Below w.heap.size w (W.setCell ⟨w.heap.size + 1 + 1, 0, none⟩ (.bool true)) := hB.setCell (by show w.heap.size ≤ w.heap.size + 1 + 1; omega) _
    have hK2 := (KeepsOthers.setCell W ⟨w.heap.size + 1 + 1, 0, none⟩ (.bool true)).same D _ hK rfl
    refine ⟨by simp, .inl ⟨_, _, rfl, run_takeDeferred hK2, ?_⟩⟩
    have hb2 := (box_own hG2.b2 (grownBy_putObj' _ D (.deferred none)) (fun r e => by cases e; exact ⟨_, hK2, rfl⟩)).cell
    exact ⟨_, results_bool (fn := Try.f46) rfl _ _ _ _ rfl hb2, rfl, below_grownBy (hB2.trans (belowK_b (w := w) (Nat.le_refl _) _ D _ _ (by omega) hK2 rfl rfl))⟩
  case hstop =>
    rintro D cd pre W hD hpre ⟨rfl, ⟨k, hG⟩, hB⟩ hK
    gi_wp2
    refine ⟨by simp, .inl ⟨_, _, rfl, run_takeDeferred hK, ?_⟩⟩
    have hb2 := (box_own hG.b2 (grownBy_putObj' W D (.deferred none)) (fun r e => by cases e; exact ⟨_, hK, rfl⟩)).cell
    exact ⟨_, results_bool (fn := Try.f46) rfl _ _ _ _ rfl hb2, rfl, below_grownBy (hB.trans (belowK_b (w := w) (Nat.le_refl _) W D _ _ (by omega) hK rfl rfl))⟩
end Go.Proofs.Ytmnfdiffneobpaa
