/-
  TimesAgain: the walk of no records (a nil slice), and the whole.
-/
import Derived.Test.YtmnfdiffneobpaaJ2
import Derived.Test.YtmnfdiffneobpaaJ2b
import Derived.Test.YtmnfdiffneobpaaH3
namespace Go.Proofs.Ytmnfdiffneobpaa
open Go.RowKit Go.Shelf
set_option linter.unusedVariables false

theorem gnil (w : World) : Gr.Rs w none 0 0 [] := ⟨rfl, Nat.le_refl _, by omega, fun _ => rfl, fun a ha => (by cases ha), fun b o ha => (by cases ha), fun r hr => (by cases hr)⟩
theorem put_nil {w : World} {b : Nat} {ro : Option Addr} {rc : Nat} {bs : Int} (h : Xd w b ro rc bs bs []) (hb0 : 0 ≤ bs) (hb1 : bs ≤ 9007199254740993) (so : Option Addr) (sc : Nat) (hap : ∀ q, blk so = some q → blk ro ≠ some q) :
    Calls Try.prog 21 #[.pointer (some ⟨b, 0, none⟩), .slice so 0 sc] w fun e w' => ∃ ro' rc', e = .returned (.int .i64 0) ∧ Xd w' b ro' rc' bs bs [] ∧ Near w ro rc ro' rc' ∧ Chg w w' (fun q => q = b ∨ blk ro = some q) := by
  have e1 : bs + ((0 : Nat) : Int) = bs := by omega
  have h9 := put_again (w := w) (b := b) (ro := ro) (rc := rc) (bs := bs) (k := 0) (xs := []) (ys := []) (by rw [e1]; exact h) rfl hb0 (n := 0) (by omega) so 0 sc [] ⟨rfl, fun h => by omega⟩ hap ⟨rfl, by omega⟩ (fun r hr => by cases hr) rfl
  rw [e1] at h9
  exact h9
theorem bytes_knil {w : World} {b : Nat} {ro : Option Addr} {rc : Nat} {bs : Int} (hb0 : 0 ≤ bs) (hb1 : bs ≤ 1000000) (h : Xd w b ro rc bs bs []) :
    ∃ bl m, Hid (bl = ribs bs 0 []) ∧ m ≤ 10000 ∧ openOk bl ∧ (∀ b (V : World) (ro : Option Addr) (rc : Nat), Xd V b ro rc (n8 bl 0) (n8 bl 8) (scanL bl (cntB bl)) → Xd V b ro rc bs bs []) ∧
      Calls Try.prog 12 #[.pointer (some ⟨b, 0, none⟩)] w fun e w' => ∃ bo bc, e = .returned (.slice bo m bc) ∧ Ow w' w.heap.size 5 bo m bc bl ∧ w.grownBy w' none := by
  have e1 : bs + ((0 : Nat) : Int) = bs := by omega
  have h9 := bytes_known (w := w) (b := b) (ro := ro) (rc := rc) (n := 0) (bs := bs) (ts := []) hb0 hb1 (by omega) rfl (fun t ht => by cases ht) (by rw [e1]; exact h)
  rw [e1] at h9
  exact h9


set_option maxRecDepth 100000 in
set_option maxHeartbeats 8000000 in
theorem timesAgain_nil (w : World) (bs at' tm : Int) (hb0 : 0 ≤ bs) (hb1 : bs ≤ 1000000) :
    Calls Try.prog 6 #[.agg #[.int .i64 bs, .slice none 0 0, .int .i64 at', .int .i64 tm]] w fun e w' => e = .returned (.bool true) ∧ w.grownBy w' none := by
  have ga := alloc_grown w (.cells #[.int .i64 bs, .slice none 0 0, .int .i64 at', .int .i64 tm] 51)
  have k9 := World.alloc_heap_new w (.cells #[.int .i64 bs, .slice none 0 0, .int .i64 at', .int .i64 tm] 51)
  have gd := grown_trans ga (grown_drew (w.alloc (.cells #[.int .i64 bs, .slice none 0 0, .int .i64 at', .int .i64 tm] 51)) none) (by simp)
  have c0 := (grown_drew (w.alloc (.cells #[.int .i64 bs, .slice none 0 0, .int .i64 at', .int .i64 tm] 51)) none).cell (cell_of (i := 0) (v := .int .i64 bs) k9 rfl) (by simp)
  have c1 := (grown_drew (w.alloc (.cells #[.int .i64 bs, .slice none 0 0, .int .i64 at', .int .i64 tm] 51)) none).cell (cell_of (i := 1) (v := .slice none 0 0) k9 rfl) (by simp)
  have c2 := (grown_drew (w.alloc (.cells #[.int .i64 bs, .slice none 0 0, .int .i64 at', .int .i64 tm] 51)) none).cell (cell_of (i := 2) (v := .int .i64 at') k9 rfl) (by simp)
  have ht : at'.tmod 1 = 0 := Int.tmod_one at'
  have d2 : decide (bs < 0) = false := by simp; omega
  have d3 : decide (1000000 < bs) = false := by simp; omega
  go_enter Try.func6, Try.ntmps6
  go_wp2_with fail
  go_region_held3 (fun w' => w'.cell? ⟨w.heap.size, 0, none⟩ = some (.int .i64 bs) ∧ w'.cell? ⟨w.heap.size, 1, none⟩ = some (.slice none 0 0)) (first | exact ⟨c0, c1⟩ | go_keep) (fail)
  clear ga k9 c0 c1
  generalize (w.alloc (.cells #[.int .i64 bs, .slice none 0 0, .int .i64 at', .int .i64 tm] 51)).drew = wd at *
  have hma := mayAll_any (w := wd) none 0 0 [] ⟨rfl, fun h => by omega⟩ (by omega)
  rw [show ([] : List Rc).all Rc.may = true from rfl] at hma
  go_wp2_with fail
  refine hma.mono ?_
  rintro e w1 ⟨rfl, hg1⟩
  clear hma
  have hG1 := grown_trans gd hg1 (by simp)
  have c2 := hg1.cell c2 (by simp)
  have hnx := new_ok w1 bs hb0 (by omega)
  go_wp2_with fail
  refine hnx.mono ?_
  rintro e w2 ⟨rfl, hX2, hg2⟩
  clear hnx c2
  have hG2 := grown_trans hG1 hg2 (by simp)
  have hpx : w1.heap.size < w2.heap.size := hX2.lt
  have hwpx : w.heap.size ≤ w1.heap.size := hG1.size
  generalize w1.heap.size = px at *
  have hn2 := num_any w2 0
  go_wp2_with fail
  refine hn2.mono ?_
  rintro e w2' ⟨rfl, rfl⟩
  clear hn2
  have hpu := put_none hX2 hb0 (by omega)
  go_wp2_with fail
  refine hpu.mono ?_
  rintro e w3 ⟨rx, cx, rfl, hX3, hF3, hC3⟩
  clear hpu
  have hg3 : w.grownBy w3 none := ((Chg.of_grown hG2 _).trans hC3).grown (fun q hq e2 => by show False; change q = px at e2; omega)
  have hn3 := num_any w3 0
  go_wp2_with fail
  refine hn3.mono ?_
  rintro e w3' ⟨rfl, rfl⟩
  clear hn3
  have hco := copy_any hX3
  clear hX2 hG1 hG2 hg1 hg2 hF3 hC3
  go_wp2_with fail
  refine hco.mono ?_
  rintro e w4 ⟨pc, rcc, cc, rfl, hP4, hpc, hFc, hg4⟩
  clear hco
  have hX4 := hX3.grown hg4
  have hG4 := grown_trans hg3 hg4 (by simp)
  have hxl := hX3.lt
  have hcu := cut_ok hP4 srt_nil bs (by omega) (by omega)
  rw [List.filter_nil] at hcu
  go_wp2_with fail
  refine hcu.mono ?_
  rintro e w5 ⟨rfl, ⟨cc2, hP5⟩, hC5⟩
  clear hcu
  have hX5 := hX4.chg hC5 (show ¬ px = pc by omega) (fun q e2 => by show ¬ q = pc; have := hX3.rlt q e2; omega)
  have hG5 : w.grownBy w5 none := ((Chg.of_grown hG4 _).trans hC5).grown (fun q hq e2 => by show False; change q = pc at e2; have := hg3.size; omega)
  have hn5 := num_any w5 0
  go_wp2_with fail
  refine hn5.mono ?_
  rintro e w5' ⟨rfl, rfl⟩
  clear hn5
  obtain ⟨bl, m, hbl, hm2, hiok, hopen', hby⟩ := bytes_knil hb0 (by omega) hP5
  go_wp2_with fail
  refine hby.mono ?_
  rintro e w6 ⟨bo, bc, rfl, hO6, hg6⟩
  clear hby
  have hop := open_any w6 bo m bc bl hO6.shows (by omega)
  go_wp2_with fail
  refine hop.mono ?_
  rintro e w7 ⟨hg7, hor⟩
  clear hop
  have he : ∃ b ro rc, e = .returned (.tuple #[.pointer (some ⟨b, 0, none⟩), .int .i64 0]) ∧ Xd w7 b ro rc bs bs [] ∧ w6.heap.size ≤ b ∧ ∀ q, blk ro = some q → w6.heap.size ≤ q := by
    rcases hor with ⟨h9, _⟩ | ⟨_, h9, _⟩ | ⟨_, b, ro, rc, h9, h10, h11, h12⟩
    · exact absurd h9 (open_not_more hiok)
    · exact absurd hiok h9
    · exact ⟨b, ro, rc, h9, hopen' _ _ _ _ h10, h11, h12⟩
  obtain ⟨po, roo, coo, rfl, hO7, hpo, hFo⟩ := he
  clear hor hiok hopen' hO6 hbl
  have hg57 := grown_trans hg6 hg7 (by simp)
  have hX7 := hX5.grown hg57
  have hP7 := hP5.grown hg57
  have hG7 := grown_trans hG5 hg57 (by simp)
  have hcol : pc < w6.heap.size := by have := hP5.lt; have := hg6.size; omega
  have hxr : ∀ q, blk rx = some q → q < w3'.heap.size := hX3.rlt
  have hcr : ∀ q, blk rcc = some q → w3'.heap.size ≤ q ∧ q < w6.heap.size := fun q e2 => ⟨hFc q e2, by have := hP5.rlt q e2; have := hg6.size; omega⟩
  have hws := hg3.size
  have hw46 : w3'.heap.size ≤ w6.heap.size := Nat.le_trans hg4.size (Nat.le_trans hC5.size hg6.size)
  clear hX3 hX4 hX5 hP4 hP5 hg3 hg4 hC5 hg6 hg7 hg57 hG4 hG5 hFc
  go_wp2_with fail
  refine wp_region_held_drew (S := fun _ : World => True) (by kernel_rfl) trivial (fun hHeld => ?_)
  have hgd7 := grown_drew w7 none
  have hX7 := hX7.grown hgd7
  have hP7 := hP7.grown hgd7
  have hO7 := hO7.grown hgd7
  have hG7 := grown_trans hG7 hgd7 (by simp)
  have h67 : w6.heap.size ≤ w7.drew.heap.size := by have := hO7.lt; omega
  clear hgd7
  generalize w7.drew = w8 at *
  refine wpAnyH_take (i := 0) (oi := { dst := some 88, op := Op.move (Operand.tmp 9), type := 27, pos := "outright.go:25", after := #[], guard := none }) (v := ?_) rfl (by kernel_rfl) (by kernel_rfl) (by kernel_rfl) (fun _ _ _ h => h) (Or.inl ⟨by simp [Region.wanted], ?_⟩) (by assumption) ?_
  rotate_left
  · intro w hSw; (try dsimp only at hSw); go_simp
    try with_reducible rfl
  try simp only [Act.put, List.setIfInBounds_toArray, List.set_cons_zero, List.set_cons_succ]
  refine wpAnyH_take (i := 1) (oi := { dst := some 89, op := Op.binOp BinOp.eql 27 (Operand.tmp 88) (Operand.const (Value.pointer none)) 27, type := 4, pos := "outright.go:25", after := #[{ on := 0, ground := Ground.data }], guard := none }) (v := ?_) rfl (by kernel_rfl) (by kernel_rfl) (by kernel_rfl) (fun _ _ _ h => h) (Or.inl ⟨by simp [Region.wanted], ?_⟩) (by assumption) ?_
  rotate_left
  · intro w hSw; (try dsimp only at hSw); go_simp
    try with_reducible rfl
  try simp only [Act.put, List.setIfInBounds_toArray, List.set_cons_zero, List.set_cons_succ]
  refine wpAnyH_take (i := 2) (oi := { dst := some 90, op := Op.move (Operand.tmp 89), type := 4, pos := "outright.go:25", after := #[{ on := 1, ground := Ground.data }], guard := none }) (v := ?_) rfl (by kernel_rfl) (by kernel_rfl) (by kernel_rfl) (fun _ _ _ h => h) (Or.inl ⟨by simp [Region.wanted], ?_⟩) (by assumption) ?_
  rotate_left
  · intro w hSw; (try dsimp only at hSw); go_simp
    try with_reducible rfl
  try simp only [Act.put, List.setIfInBounds_toArray, List.set_cons_zero, List.set_cons_succ]
  refine wpAnyH_take (i := 3) (oi := { dst := some 91, op := Op.move (Operand.tmp 10), type := 28, pos := "outright.go:25", after := #[{ on := 2, ground := Ground.guard }], guard := some (2, false) }) (v := ?_) rfl (by kernel_rfl) (by kernel_rfl) (by kernel_rfl) (fun _ _ _ h => h) (Or.inl ⟨by simp [Region.wanted, yielded], ?_⟩) (by assumption) ?_
  rotate_left
  · intro w hSw; (try dsimp only at hSw); go_simp
    try with_reducible rfl
  try simp only [Act.put, List.setIfInBounds_toArray, List.set_cons_zero, List.set_cons_succ]
  refine wpAnyH_ready (rs := [4]) (by kernel_rfl) (by simp) ?_
  refine AllReadyH.cons (o := { dst := some 92, op := Op.call { callee := Callee.value (Operand.func 9), args := #[Operand.tmp 91], argTypes := #[28] }, type := 3, pos := "outright.go:25", after := #[{ on := 3, ground := Ground.data }, { on := 2, ground := Ground.chain }, { on := 2, ground := Ground.guard }], guard := some (2, false) }) rfl (fun K hK => ?_) (AllReadyH.nil)
  go_simp
  go_at_call 9
  refine (num_any w8 0).mono ?_
  rintro e w8' ⟨rfl, rfl⟩
  try go_simp
  refine hK.out _ _ trivial (fun hHeld => ?_)
  clear hK K
  try simp only [Act.put, List.setIfInBounds_toArray, List.set_cons_zero, List.set_cons_succ]
  refine wpAnyH_take (i := 5) (oi := { dst := some 93, op := Op.binOp BinOp.neq 3 (Operand.tmp 92) (Operand.const (Value.int IntKind.i64 0)) 3, type := 4, pos := "outright.go:25", after := #[{ on := 4, ground := Ground.data }, { on := 2, ground := Ground.guard }], guard := some (2, false) }) (v := ?_) rfl (by kernel_rfl) (by kernel_rfl) (by kernel_rfl) (fun _ _ _ h => h) (Or.inl ⟨by simp [Region.wanted, yielded], ?_⟩) (by assumption) ?_
  rotate_left
  · intro w hSw; (try dsimp only at hSw); go_simp
    try with_reducible rfl
  try simp only [Act.put, List.setIfInBounds_toArray, List.set_cons_zero, List.set_cons_succ]
  refine wpAnyH_take (i := 6) (oi := { dst := some 94, op := Op.pick (Operand.tmp 90) (Operand.const (Value.bool true)) (Operand.tmp 93), type := 4, pos := "outright.go:25", after := #[{ on := 2, ground := Ground.data }, { on := 5, ground := Ground.data }], guard := none }) (v := ?_) rfl (by kernel_rfl) (by kernel_rfl) (by kernel_rfl) (fun _ _ _ h => h) (Or.inl ⟨by simp [Region.wanted], ?_⟩) (by assumption) ?_
  rotate_left
  · intro w hSw; (try dsimp only at hSw); go_simp
    try with_reducible rfl
  try simp only [Act.put, List.setIfInBounds_toArray, List.set_cons_zero, List.set_cons_succ]
  refine wpAnyH_take (i := 7) (oi := { dst := some 95, op := Op.move (Operand.tmp 94), type := 4, pos := "outright.go:25", after := #[{ on := 6, ground := Ground.data }, { on := 4, ground := Ground.chain }], guard := none }) (v := ?_) rfl (by kernel_rfl) (by kernel_rfl) (by kernel_rfl) (fun _ _ _ h => h) (Or.inl ⟨by simp [Region.wanted], ?_⟩) (by assumption) ?_
  rotate_left
  · intro w hSw; (try dsimp only at hSw); go_simp
    try with_reducible rfl
  try simp only [Act.put, List.setIfInBounds_toArray, List.set_cons_zero, List.set_cons_succ]
  refine wpAnyH_take (i := 8) (oi := { dst := some 96, op := Op.move (Operand.tmp 8), type := 27, pos := "outright.go:25", after := #[{ on := 7, ground := Ground.guard }], guard := some (7, false) }) (v := ?_) rfl (by kernel_rfl) (by kernel_rfl) (by kernel_rfl) (fun _ _ _ h => h) (Or.inl ⟨by simp [Region.wanted, yielded], ?_⟩) (by assumption) ?_
  rotate_left
  · intro w hSw; (try dsimp only at hSw); go_simp
    try with_reducible rfl
  try simp only [Act.put, List.setIfInBounds_toArray, List.set_cons_zero, List.set_cons_succ]
  refine wpAnyH_take (i := 9) (oi := { dst := some 97, op := Op.move (Operand.tmp 4), type := 24, pos := "outright.go:25", after := #[{ on := 7, ground := Ground.guard }], guard := some (7, false) }) (v := ?_) rfl (by kernel_rfl) (by kernel_rfl) (by kernel_rfl) (fun _ _ _ h => h) (Or.inl ⟨by simp [Region.wanted, yielded], ?_⟩) (by assumption) ?_
  rotate_left
  · intro w hSw; (try dsimp only at hSw); go_simp
    try with_reducible rfl
  try simp only [Act.put, List.setIfInBounds_toArray, List.set_cons_zero, List.set_cons_succ]
  refine wpAnyH_take (i := 10) (oi := { dst := some 98, op := Op.move (Operand.tmp 5), type := 3, pos := "outright.go:25", after := #[{ on := 7, ground := Ground.guard }], guard := some (7, false) }) (v := ?_) rfl (by kernel_rfl) (by kernel_rfl) (by kernel_rfl) (fun _ _ _ h => h) (Or.inl ⟨by simp [Region.wanted, yielded], ?_⟩) (by assumption) ?_
  rotate_left
  · intro w hSw; (try dsimp only at hSw); go_simp
    try with_reducible rfl
  try simp only [Act.put, List.setIfInBounds_toArray, List.set_cons_zero, List.set_cons_succ]
  refine wpAnyH_take (i := 11) (oi := { dst := some 99, op := Op.slice 24 (Operand.tmp 97) (some (Operand.tmp 98)) none none, type := 24, pos := "outright.go:25", after := #[{ on := 9, ground := Ground.data }, { on := 10, ground := Ground.data }, { on := 7, ground := Ground.guard }], guard := some (7, false) }) (v := ?_) rfl (by kernel_rfl) (by kernel_rfl) (by kernel_rfl) (fun _ _ _ h => h) (Or.inl ⟨by simp [Region.wanted, yielded], ?_⟩) (by assumption) ?_
  rotate_left
  · intro w hSw; (try dsimp only at hSw); go_simp
    try with_reducible rfl
  try simp only [Act.put, List.setIfInBounds_toArray, List.set_cons_zero, List.set_cons_succ]
  have hD8 := gnil w8'
  have hpu := put_nil hP7 hb0 (by omega) none 0 (fun q e2 e3 => by cases e2)
  refine wpAnyH_ready (rs := [12]) (by kernel_rfl) (by simp) ?_
  refine AllReadyH.cons (o := { dst := some 100, op := Op.call { callee := Callee.value (Operand.func 21), args := #[Operand.tmp 96, Operand.tmp 99], argTypes := #[27, 24] }, type := 28, pos := "outright.go:25", after := #[{ on := 8, ground := Ground.data }, { on := 11, ground := Ground.data }, { on := 7, ground := Ground.chain }, { on := 7, ground := Ground.guard }], guard := some (7, false) }) rfl (fun K hK => ?_) (AllReadyH.nil)
  go_simp
  go_at_call 21
  refine hpu.mono ?_
  rintro e w9 ⟨rc9, cc9, rfl, hP9, hN9, hC9⟩
  try go_simp
  refine hK.out _ _ trivial (fun hHeld => ?_)
  clear hK K
  try simp only [Act.put, List.setIfInBounds_toArray, List.set_cons_zero, List.set_cons_succ]
  clear hpu
  have hx1 : blk rcc ≠ some px := hP7.sw.not64 hX7.ix (by decide)
  have hx2 : blk rx ≠ some pc := hX7.sw.not64 hP7.ix (by decide)
  have hx3 : blk rcc ≠ some po := hP7.sw.not64 hO7.ix (by decide)
  have hx4 : blk roo ≠ some pc := hO7.sw.not64 hP7.ix (by decide)
  have hor8 : ∀ q, blk roo = some q → w6.heap.size ≤ q ∧ q < w8'.heap.size := fun q e2 => ⟨hFo q e2, hO7.rlt q e2⟩
  have hX9 := hX7.chg hC9 (fun e2 => by rcases e2 with e2 | e2; omega; exact hx1 e2) (fun q e2 e3 => by rcases e3 with e3 | e3; exact hx2 (e3 ▸ e2); have := hxr q e2; have := (hcr q e3).1; omega)
  have hO9 := hO7.chg hC9 (fun e2 => by rcases e2 with e2 | e2; omega; exact hx3 e2) (fun q e2 e3 => by rcases e3 with e3 | e3; exact hx4 (e3 ▸ e2); have := (hor8 q e2).1; have := (hcr q e3).2; omega)
  have hG9 : w.grownBy w9 none := ((Chg.of_grown hG7 _).trans hC9).grown (fun q hq e2 => by rcases e2 with e2 | e2; omega; have := (hcr q e2).1; omega)
  have hs89 := hC9.size
  have hc9 : ∀ q, blk rc9 = some q → blk roo ≠ some q := fun q e2 e3 => by
    have h9 := hor8 q e3
    rcases hN9 with ⟨rfl, _⟩ | hN9
    · have := (hcr q e2).2; omega
    · have := hN9 q e2; omega
  clear hX7 hP7 hO7 hG7 hC9 hN9 hx1 hx2 hx3 hx4 hD8
  refine wpAnyH_ready (rs := [13]) (by kernel_rfl) (by simp) ?_
  refine AllReadyH.cons (o := { dst := some 101, op := Op.call { callee := Callee.value (Operand.func 9), args := #[Operand.tmp 100], argTypes := #[28] }, type := 3, pos := "outright.go:25", after := #[{ on := 12, ground := Ground.data }, { on := 12, ground := Ground.chain }, { on := 7, ground := Ground.guard }], guard := some (7, false) }) rfl (fun K hK => ?_) (AllReadyH.nil)
  go_simp
  go_at_call 9
  refine (num_any w9 0).mono ?_
  rintro e w9' ⟨rfl, rfl⟩
  try go_simp
  refine hK.out _ _ trivial (fun hHeld => ?_)
  clear hK K
  try simp only [Act.put, List.setIfInBounds_toArray, List.set_cons_zero, List.set_cons_succ]
  refine wpAnyH_take (i := 14) (oi := { dst := some 102, op := Op.binOp BinOp.neq 3 (Operand.tmp 101) (Operand.const (Value.int IntKind.i64 0)) 3, type := 4, pos := "outright.go:25", after := #[{ on := 13, ground := Ground.data }, { on := 7, ground := Ground.guard }], guard := some (7, false) }) (v := ?_) rfl (by kernel_rfl) (by kernel_rfl) (by kernel_rfl) (fun _ _ _ h => h) (Or.inl ⟨by simp [Region.wanted, yielded], ?_⟩) (by assumption) ?_
  rotate_left
  · intro w hSw; (try dsimp only at hSw); go_simp
    try with_reducible rfl
  try simp only [Act.put, List.setIfInBounds_toArray, List.set_cons_zero, List.set_cons_succ]
  refine wpAnyH_take (i := 15) (oi := { dst := some 103, op := Op.pick (Operand.tmp 95) (Operand.const (Value.bool true)) (Operand.tmp 102), type := 4, pos := "outright.go:25", after := #[{ on := 7, ground := Ground.data }, { on := 14, ground := Ground.data }], guard := none }) (v := ?_) rfl (by kernel_rfl) (by kernel_rfl) (by kernel_rfl) (fun _ _ _ h => h) (Or.inl ⟨by simp [Region.wanted], ?_⟩) (by assumption) ?_
  rotate_left
  · intro w hSw; (try dsimp only at hSw); go_simp
    try with_reducible rfl
  try simp only [Act.put, List.setIfInBounds_toArray, List.set_cons_zero, List.set_cons_succ]
  refine wpAnyH_take (i := 16) (oi := { dst := some 104, op := Op.move (Operand.tmp 103), type := 4, pos := "outright.go:25", after := #[{ on := 15, ground := Ground.data }, { on := 13, ground := Ground.chain }], guard := none }) (v := ?_) rfl (by kernel_rfl) (by kernel_rfl) (by kernel_rfl) (fun _ _ _ h => h) (Or.inl ⟨by simp [Region.wanted], ?_⟩) (by assumption) ?_
  rotate_left
  · intro w hSw; (try dsimp only at hSw); go_simp
    try with_reducible rfl
  try simp only [Act.put, List.setIfInBounds_toArray, List.set_cons_zero, List.set_cons_succ]
  refine wpAnyH_take (i := 17) (oi := { dst := some 105, op := Op.move (Operand.tmp 9), type := 27, pos := "outright.go:25", after := #[{ on := 16, ground := Ground.guard }], guard := some (16, false) }) (v := ?_) rfl (by kernel_rfl) (by kernel_rfl) (by kernel_rfl) (fun _ _ _ h => h) (Or.inl ⟨by simp [Region.wanted, yielded], ?_⟩) (by assumption) ?_
  rotate_left
  · intro w hSw; (try dsimp only at hSw); go_simp
    try with_reducible rfl
  try simp only [Act.put, List.setIfInBounds_toArray, List.set_cons_zero, List.set_cons_succ]
  refine wpAnyH_take (i := 18) (oi := { dst := some 106, op := Op.move (Operand.tmp 4), type := 24, pos := "outright.go:25", after := #[{ on := 16, ground := Ground.guard }], guard := some (16, false) }) (v := ?_) rfl (by kernel_rfl) (by kernel_rfl) (by kernel_rfl) (fun _ _ _ h => h) (Or.inl ⟨by simp [Region.wanted, yielded], ?_⟩) (by assumption) ?_
  rotate_left
  · intro w hSw; (try dsimp only at hSw); go_simp
    try with_reducible rfl
  try simp only [Act.put, List.setIfInBounds_toArray, List.set_cons_zero, List.set_cons_succ]
  refine wpAnyH_take (i := 19) (oi := { dst := some 107, op := Op.move (Operand.tmp 5), type := 3, pos := "outright.go:25", after := #[{ on := 16, ground := Ground.guard }], guard := some (16, false) }) (v := ?_) rfl (by kernel_rfl) (by kernel_rfl) (by kernel_rfl) (fun _ _ _ h => h) (Or.inl ⟨by simp [Region.wanted, yielded], ?_⟩) (by assumption) ?_
  rotate_left
  · intro w hSw; (try dsimp only at hSw); go_simp
    try with_reducible rfl
  try simp only [Act.put, List.setIfInBounds_toArray, List.set_cons_zero, List.set_cons_succ]
  refine wpAnyH_take (i := 20) (oi := { dst := some 108, op := Op.slice 24 (Operand.tmp 106) (some (Operand.tmp 107)) none none, type := 24, pos := "outright.go:25", after := #[{ on := 18, ground := Ground.data }, { on := 19, ground := Ground.data }, { on := 16, ground := Ground.guard }], guard := some (16, false) }) (v := ?_) rfl (by kernel_rfl) (by kernel_rfl) (by kernel_rfl) (fun _ _ _ h => h) (Or.inl ⟨by simp [Region.wanted, yielded], ?_⟩) (by assumption) ?_
  rotate_left
  · intro w hSw; (try dsimp only at hSw); go_simp
    try with_reducible rfl
  try simp only [Act.put, List.setIfInBounds_toArray, List.set_cons_zero, List.set_cons_succ]
  have hD9 := gnil w9'
  have hrc := Gr.rcopy_any w9' none 0 0 [] hD9 (by omega) (fun r hr => by cases hr)
  refine wpAnyH_ready (rs := [21]) (by kernel_rfl) (by simp) ?_
  refine AllReadyH.cons (o := { dst := some 109, op := Op.call { callee := Callee.value (Operand.func 26), args := #[Operand.tmp 108], argTypes := #[24] }, type := 24, pos := "outright.go:25", after := #[{ on := 20, ground := Ground.data }, { on := 16, ground := Ground.chain }, { on := 16, ground := Ground.guard }], guard := some (16, false) }) rfl (fun K hK => ?_) (AllReadyH.nil)
  go_simp
  go_at_call 26
  refine hrc.mono ?_
  rintro e w10 ⟨so10, sc10, rs10, rfl, hW10, hds10, hA10, hg10⟩
  try go_simp
  refine hK.out _ _ trivial (fun hHeld => ?_)
  clear hK K
  try simp only [Act.put, List.setIfInBounds_toArray, List.set_cons_zero, List.set_cons_succ]
  clear hrc
  have hX10 := hX9.grown hg10
  have hP10 := hP9.grown hg10
  have hO10 := hO9.grown hg10
  have hG10 := grown_trans hG9 hg10 (by simp)
  have hpu := put_nil hO10 hb0 (by omega) so10 sc10 (fun q e2 e3 => by have := (hW10.from_base q e2).1; have := (hor8 q e3).2; omega)
  refine wpAnyH_ready (rs := [22]) (by kernel_rfl) (by simp) ?_
  refine AllReadyH.cons (o := { dst := some 110, op := Op.call { callee := Callee.value (Operand.func 21), args := #[Operand.tmp 105, Operand.tmp 109], argTypes := #[27, 24] }, type := 28, pos := "outright.go:25", after := #[{ on := 17, ground := Ground.data }, { on := 21, ground := Ground.data }, { on := 21, ground := Ground.chain }, { on := 16, ground := Ground.guard }], guard := some (16, false) }) rfl (fun K hK => ?_) (AllReadyH.nil)
  go_simp
  go_at_call 21
  refine hpu.mono ?_
  rintro e w11 ⟨ro11, co11, rfl, hO11, hN11, hC11⟩
  try go_simp
  refine hK.out _ _ trivial (fun hHeld => ?_)
  clear hK K
  try simp only [Act.put, List.setIfInBounds_toArray, List.set_cons_zero, List.set_cons_succ]
  clear hpu
  have hx1 : blk roo ≠ some px := hO10.sw.not64 hX10.ix (by decide)
  have hx2 : blk rx ≠ some po := hX10.sw.not64 hO10.ix (by decide)
  have hx3 : blk roo ≠ some pc := hO10.sw.not64 hP10.ix (by decide)
  have hx4 : blk rc9 ≠ some po := hP10.sw.not64 hO10.ix (by decide)
  have hX11 := hX10.chg hC11 (fun e2 => by rcases e2 with e2 | e2; omega; exact hx1 e2) (fun q e2 e3 => by rcases e3 with e3 | e3; exact hx2 (e3 ▸ e2); have := hxr q e2; have := (hor8 q e3).1; omega)
  have hP11 := hP10.chg hC11 (fun e2 => by rcases e2 with e2 | e2; omega; exact hx3 e2) (fun q e2 e3 => by rcases e3 with e3 | e3; exact hx4 (e3 ▸ e2); exact hc9 q e2 e3)
  have hG11 : w.grownBy w11 none := ((Chg.of_grown hG10 _).trans hC11).grown (fun q hq e2 => by rcases e2 with e2 | e2; omega; have := (hor8 q e2).1; omega)
  clear hX9 hP9 hO9 hG9 hX10 hP10 hO10 hG10 hC11 hN11 hx1 hx2 hx3 hx4 hD9 hA10 hds10 hW10 hg10
  refine wpAnyH_ready (rs := [23]) (by kernel_rfl) (by simp) ?_
  refine AllReadyH.cons (o := { dst := some 111, op := Op.call { callee := Callee.value (Operand.func 9), args := #[Operand.tmp 110], argTypes := #[28] }, type := 3, pos := "outright.go:25", after := #[{ on := 22, ground := Ground.data }, { on := 22, ground := Ground.chain }, { on := 16, ground := Ground.guard }], guard := some (16, false) }) rfl (fun K hK => ?_) (AllReadyH.nil)
  go_simp
  go_at_call 9
  refine (num_any w11 0).mono ?_
  rintro e w11' ⟨rfl, rfl⟩
  try go_simp
  refine hK.out _ _ trivial (fun hHeld => ?_)
  clear hK K
  try simp only [Act.put, List.setIfInBounds_toArray, List.set_cons_zero, List.set_cons_succ]
  refine wpAnyH_take (i := 24) (oi := { dst := some 112, op := Op.binOp BinOp.neq 3 (Operand.tmp 111) (Operand.const (Value.int IntKind.i64 0)) 3, type := 4, pos := "outright.go:25", after := #[{ on := 23, ground := Ground.data }, { on := 16, ground := Ground.guard }], guard := some (16, false) }) (v := ?_) rfl (by kernel_rfl) (by kernel_rfl) (by kernel_rfl) (fun _ _ _ h => h) (Or.inl ⟨by simp [Region.wanted, yielded], ?_⟩) (by assumption) ?_
  rotate_left
  · intro w hSw; (try dsimp only at hSw); go_simp
    try with_reducible rfl
  try simp only [Act.put, List.setIfInBounds_toArray, List.set_cons_zero, List.set_cons_succ]
  refine wpAnyH_take (i := 25) (oi := { dst := some 113, op := Op.pick (Operand.tmp 104) (Operand.const (Value.bool true)) (Operand.tmp 112), type := 4, pos := "outright.go:25", after := #[{ on := 16, ground := Ground.data }, { on := 24, ground := Ground.data }], guard := none }) (v := ?_) rfl (by kernel_rfl) (by kernel_rfl) (by kernel_rfl) (fun _ _ _ h => h) (Or.inl ⟨by simp [Region.wanted], ?_⟩) (by assumption) ?_
  rotate_left
  · intro w hSw; (try dsimp only at hSw); go_simp
    try with_reducible rfl
  try simp only [Act.put, List.setIfInBounds_toArray, List.set_cons_zero, List.set_cons_succ]
  refine wpAnyH_take (i := 26) (oi := { dst := some 114, op := Op.move (Operand.tmp 113), type := 4, pos := "outright.go:25", after := #[{ on := 25, ground := Ground.data }, { on := 23, ground := Ground.chain }], guard := none }) (v := ?_) rfl (by kernel_rfl) (by kernel_rfl) (by kernel_rfl) (fun _ _ _ h => h) (Or.inl ⟨by simp [Region.wanted], ?_⟩) (by assumption) ?_
  rotate_left
  · intro w hSw; (try dsimp only at hSw); go_simp
    try with_reducible rfl
  try simp only [Act.put, List.setIfInBounds_toArray, List.set_cons_zero, List.set_cons_succ]
  refine wpAnyH_take (i := 27) (oi := { dst := some 115, op := Op.move (Operand.tmp 8), type := 27, pos := "outright.go:25", after := #[{ on := 26, ground := Ground.guard }], guard := some (26, false) }) (v := ?_) rfl (by kernel_rfl) (by kernel_rfl) (by kernel_rfl) (fun _ _ _ h => h) (Or.inl ⟨by simp [Region.wanted, yielded], ?_⟩) (by assumption) ?_
  rotate_left
  · intro w hSw; (try dsimp only at hSw); go_simp
    try with_reducible rfl
  try simp only [Act.put, List.setIfInBounds_toArray, List.set_cons_zero, List.set_cons_succ]
  refine wpAnyH_take (i := 28) (oi := { dst := some 116, op := Op.move (Operand.tmp 6), type := 27, pos := "outright.go:25", after := #[{ on := 26, ground := Ground.guard }], guard := some (26, false) }) (v := ?_) rfl (by kernel_rfl) (by kernel_rfl) (by kernel_rfl) (fun _ _ _ h => h) (Or.inl ⟨by simp [Region.wanted, yielded], ?_⟩) (by assumption) ?_
  rotate_left
  · intro w hSw; (try dsimp only at hSw); go_simp
    try with_reducible rfl
  try simp only [Act.put, List.setIfInBounds_toArray, List.set_cons_zero, List.set_cons_succ]
  refine wpAnyH_ready (rs := [29]) (by kernel_rfl) (by simp) ?_
  refine AllReadyH.cons (o := { dst := some 117, op := Op.call { callee := Callee.value (Operand.func 13), args := #[Operand.tmp 115, Operand.tmp 116], argTypes := #[27, 27] }, type := 4, pos := "outright.go:25", after := #[{ on := 27, ground := Ground.data }, { on := 28, ground := Ground.data }, { on := 26, ground := Ground.chain }, { on := 26, ground := Ground.guard }], guard := some (26, false) }) rfl (fun K hK => ?_) (AllReadyH.nil)
  go_simp
  go_at_call 13
  refine (same_yes hP11 hX11).mono ?_
  rintro e w12 ⟨rfl, hg12⟩
  try go_simp
  refine hK.out _ _ trivial (fun hHeld => ?_)
  clear hK K
  try simp only [Act.put, List.setIfInBounds_toArray, List.set_cons_zero, List.set_cons_succ]
  have hX12 := hX11.grown hg12
  have hO12 := hO11.grown hg12
  have hG12 := grown_trans hG11 hg12 (by simp)
  refine wpAnyH_take (i := 30) (oi := { dst := some 118, op := Op.unOp UnOp.not 4 (Operand.tmp 117), type := 4, pos := "outright.go:25", after := #[{ on := 29, ground := Ground.data }, { on := 26, ground := Ground.guard }], guard := some (26, false) }) (v := ?_) rfl (by kernel_rfl) (by kernel_rfl) (by kernel_rfl) (fun _ _ _ h => h) (Or.inl ⟨by simp [Region.wanted, yielded], ?_⟩) (by assumption) ?_
  rotate_left
  · intro w hSw; (try dsimp only at hSw); go_simp
    try with_reducible rfl
  try simp only [Act.put, List.setIfInBounds_toArray, List.set_cons_zero, List.set_cons_succ]
  refine wpAnyH_take (i := 31) (oi := { dst := some 119, op := Op.pick (Operand.tmp 114) (Operand.const (Value.bool true)) (Operand.tmp 118), type := 4, pos := "outright.go:25", after := #[{ on := 26, ground := Ground.data }, { on := 30, ground := Ground.data }], guard := none }) (v := ?_) rfl (by kernel_rfl) (by kernel_rfl) (by kernel_rfl) (fun _ _ _ h => h) (Or.inl ⟨by simp [Region.wanted], ?_⟩) (by assumption) ?_
  rotate_left
  · intro w hSw; (try dsimp only at hSw); go_simp
    try with_reducible rfl
  try simp only [Act.put, List.setIfInBounds_toArray, List.set_cons_zero, List.set_cons_succ]
  refine wpAnyH_take (i := 32) (oi := { dst := some 120, op := Op.move (Operand.tmp 119), type := 4, pos := "outright.go:25", after := #[{ on := 31, ground := Ground.data }, { on := 29, ground := Ground.chain }], guard := none }) (v := ?_) rfl (by kernel_rfl) (by kernel_rfl) (by kernel_rfl) (fun _ _ _ h => h) (Or.inl ⟨by simp [Region.wanted], ?_⟩) (by assumption) ?_
  rotate_left
  · intro w hSw; (try dsimp only at hSw); go_simp
    try with_reducible rfl
  try simp only [Act.put, List.setIfInBounds_toArray, List.set_cons_zero, List.set_cons_succ]
  refine wpAnyH_take (i := 33) (oi := { dst := some 121, op := Op.move (Operand.tmp 9), type := 27, pos := "outright.go:25", after := #[{ on := 32, ground := Ground.guard }], guard := some (32, false) }) (v := ?_) rfl (by kernel_rfl) (by kernel_rfl) (by kernel_rfl) (fun _ _ _ h => h) (Or.inl ⟨by simp [Region.wanted, yielded], ?_⟩) (by assumption) ?_
  rotate_left
  · intro w hSw; (try dsimp only at hSw); go_simp
    try with_reducible rfl
  try simp only [Act.put, List.setIfInBounds_toArray, List.set_cons_zero, List.set_cons_succ]
  refine wpAnyH_take (i := 34) (oi := { dst := some 122, op := Op.move (Operand.tmp 6), type := 27, pos := "outright.go:25", after := #[{ on := 32, ground := Ground.guard }], guard := some (32, false) }) (v := ?_) rfl (by kernel_rfl) (by kernel_rfl) (by kernel_rfl) (fun _ _ _ h => h) (Or.inl ⟨by simp [Region.wanted, yielded], ?_⟩) (by assumption) ?_
  rotate_left
  · intro w hSw; (try dsimp only at hSw); go_simp
    try with_reducible rfl
  try simp only [Act.put, List.setIfInBounds_toArray, List.set_cons_zero, List.set_cons_succ]
  refine wpAnyH_ready (rs := [35]) (by kernel_rfl) (by simp) ?_
  refine AllReadyH.cons (o := { dst := some 123, op := Op.call { callee := Callee.value (Operand.func 13), args := #[Operand.tmp 121, Operand.tmp 122], argTypes := #[27, 27] }, type := 4, pos := "outright.go:25", after := #[{ on := 33, ground := Ground.data }, { on := 34, ground := Ground.data }, { on := 32, ground := Ground.chain }, { on := 32, ground := Ground.guard }], guard := some (32, false) }) rfl (fun K hK => ?_) (AllReadyH.nil)
  go_simp
  go_at_call 13
  refine (same_yes hO12 hX12).mono ?_
  rintro e w13 ⟨rfl, hg13⟩
  try go_simp
  refine hK.out _ _ trivial (fun hHeld => ?_)
  clear hK K
  try simp only [Act.put, List.setIfInBounds_toArray, List.set_cons_zero, List.set_cons_succ]
  have hX13 := hX12.grown hg13
  have hO13 := hO12.grown hg13
  have hG13 := grown_trans hG12 hg13 (by simp)
  obtain ⟨bl1, m1, hbl1, _, _, _, hby1⟩ := bytes_knil hb0 (by omega) hO13
  clear hX11 hP11 hO11 hG11 hX12 hO12 hG12 hg12 hg13
  refine wpAnyH_take (i := 36) (oi := { dst := some 124, op := Op.unOp UnOp.not 4 (Operand.tmp 123), type := 4, pos := "outright.go:25", after := #[{ on := 35, ground := Ground.data }, { on := 32, ground := Ground.guard }], guard := some (32, false) }) (v := ?_) rfl (by kernel_rfl) (by kernel_rfl) (by kernel_rfl) (fun _ _ _ h => h) (Or.inl ⟨by simp [Region.wanted, yielded], ?_⟩) (by assumption) ?_
  rotate_left
  · intro w hSw; (try dsimp only at hSw); go_simp
    try with_reducible rfl
  try simp only [Act.put, List.setIfInBounds_toArray, List.set_cons_zero, List.set_cons_succ]
  refine wpAnyH_take (i := 37) (oi := { dst := some 125, op := Op.pick (Operand.tmp 120) (Operand.const (Value.bool true)) (Operand.tmp 124), type := 4, pos := "outright.go:25", after := #[{ on := 32, ground := Ground.data }, { on := 36, ground := Ground.data }], guard := none }) (v := ?_) rfl (by kernel_rfl) (by kernel_rfl) (by kernel_rfl) (fun _ _ _ h => h) (Or.inl ⟨by simp [Region.wanted], ?_⟩) (by assumption) ?_
  rotate_left
  · intro w hSw; (try dsimp only at hSw); go_simp
    try with_reducible rfl
  try simp only [Act.put, List.setIfInBounds_toArray, List.set_cons_zero, List.set_cons_succ]
  refine wpAnyH_take (i := 38) (oi := { dst := some 126, op := Op.move (Operand.tmp 125), type := 4, pos := "outright.go:25", after := #[{ on := 37, ground := Ground.data }, { on := 35, ground := Ground.chain }], guard := none }) (v := ?_) rfl (by kernel_rfl) (by kernel_rfl) (by kernel_rfl) (fun _ _ _ h => h) (Or.inl ⟨by simp [Region.wanted], ?_⟩) (by assumption) ?_
  rotate_left
  · intro w hSw; (try dsimp only at hSw); go_simp
    try with_reducible rfl
  try simp only [Act.put, List.setIfInBounds_toArray, List.set_cons_zero, List.set_cons_succ]
  refine wpAnyH_take (i := 39) (oi := { dst := some 127, op := Op.move (Operand.tmp 9), type := 27, pos := "outright.go:25", after := #[{ on := 38, ground := Ground.guard }], guard := some (38, false) }) (v := ?_) rfl (by kernel_rfl) (by kernel_rfl) (by kernel_rfl) (fun _ _ _ h => h) (Or.inl ⟨by simp [Region.wanted, yielded], ?_⟩) (by assumption) ?_
  rotate_left
  · intro w hSw; (try dsimp only at hSw); go_simp
    try with_reducible rfl
  try simp only [Act.put, List.setIfInBounds_toArray, List.set_cons_zero, List.set_cons_succ]
  refine wpAnyH_take (i := 42) (oi := { dst := some 130, op := Op.move (Operand.tmp 6), type := 27, pos := "outright.go:25", after := #[{ on := 38, ground := Ground.guard }], guard := some (38, false) }) (v := ?_) rfl (by kernel_rfl) (by kernel_rfl) (by kernel_rfl) (fun _ _ _ h => h) (Or.inl ⟨by simp [Region.wanted, yielded], ?_⟩) (by assumption) ?_
  rotate_left
  · intro w hSw; (try dsimp only at hSw); go_simp
    try with_reducible rfl
  try simp only [Act.put, List.setIfInBounds_toArray, List.set_cons_zero, List.set_cons_succ]
  refine wpAnyH_ready (rs := [40]) (by kernel_rfl) (by simp) ?_
  refine AllReadyH.cons (o := { dst := some 128, op := Op.call { callee := Callee.value (Operand.func 12), args := #[Operand.tmp 127], argTypes := #[27] }, type := 40, pos := "outright.go:25", after := #[{ on := 39, ground := Ground.data }, { on := 38, ground := Ground.chain }, { on := 38, ground := Ground.guard }], guard := some (38, false) }) rfl (fun K hK => ?_) (AllReadyH.nil)
  go_simp
  go_at_call 12
  refine hby1.mono ?_
  rintro e w14 ⟨bo1, bc1, rfl, hW14, hg14⟩
  try go_simp
  refine hK.out _ _ trivial (fun hHeld => ?_)
  clear hK K
  try simp only [Act.put, List.setIfInBounds_toArray, List.set_cons_zero, List.set_cons_succ]
  have hX14 := hX13.grown hg14
  have hG14 := grown_trans hG13 hg14 (by simp)
  have hB14 := hW14.shows
  obtain ⟨bl2, m2, hbl2, _, _, _, hby2⟩ := bytes_knil hb0 (by omega) hX14
  obtain rfl : bl2 = bl1 := hbl2.out.trans hbl1.out.symm
  clear hby1 hbl1 hbl2 hX13 hO13 hG13 hHeld
  refine wpAnyH_mono (S2 := fun W : World => w14.grownBy W none) (fun _ _ => trivial) _ _ _ _ ?_
  have hHeld : (fun W : World => w14.grownBy W none) w14 := grown_refl _ _
  refine wpAnyH_take (i := 41) (oi := { dst := some 129, op := Op.convert 40 9 (Operand.tmp 128), type := 9, pos := "outright.go:25", after := #[{ on := 40, ground := Ground.data }, { on := 38, ground := Ground.guard }], guard := some (38, false) }) (v := ?_) rfl (by kernel_rfl) (by kernel_rfl) (by kernel_rfl) (fun _ _ _ h => h) (Or.inl ⟨by simp [Region.wanted, yielded], ?_⟩) (by assumption) ?_
  rotate_left
  · intro w hSw; (try dsimp only at hSw); have hcv := run_string_bs (P := Try.prog) w 40 9 5 Try.underlying40 Try.underlying5 Try.underlying9 (hB14.grown hSw); go_simp
    try with_reducible rfl
  try simp only [Act.put, List.setIfInBounds_toArray, List.set_cons_zero, List.set_cons_succ]
  refine wpAnyH_ready (rs := [43]) (by kernel_rfl) (by simp) ?_
  refine AllReadyH.cons (o := { dst := some 131, op := Op.call { callee := Callee.value (Operand.func 12), args := #[Operand.tmp 130], argTypes := #[27] }, type := 40, pos := "outright.go:25", after := #[{ on := 42, ground := Ground.data }, { on := 40, ground := Ground.chain }, { on := 38, ground := Ground.guard }], guard := some (38, false) }) rfl (fun K hK => ?_) (AllReadyH.nil)
  go_simp
  go_at_call 12
  refine hby2.mono ?_
  rintro e w15 ⟨bo2, bc2, rfl, hW15, hg15⟩
  try go_simp
  refine hK.out _ _ hg15 (fun hHeld => ?_)
  clear hK K
  try simp only [Act.put, List.setIfInBounds_toArray, List.set_cons_zero, List.set_cons_succ]
  have hX15 := hX14.grown hg15
  have hG15 := grown_trans hG14 hg15 (by simp)
  have hB15 := hW15.shows
  clear hby2 hHeld hX14 hG14 hB14 hW14 hg14
  refine wpAnyH_mono (S2 := fun W : World => w15.grownBy W none) (fun _ hw => grown_trans hg15 hw (by simp)) _ _ _ _ ?_
  have hHeld : (fun W : World => w15.grownBy W none) w15 := grown_refl _ _
  refine wpAnyH_take (i := 44) (oi := { dst := some 132, op := Op.convert 40 9 (Operand.tmp 131), type := 9, pos := "outright.go:25", after := #[{ on := 43, ground := Ground.data }, { on := 38, ground := Ground.guard }], guard := some (38, false) }) (v := ?_) rfl (by kernel_rfl) (by kernel_rfl) (by kernel_rfl) (fun _ _ _ h => h) (Or.inl ⟨by simp [Region.wanted, yielded], ?_⟩) (by assumption) ?_
  rotate_left
  · intro w hSw; (try dsimp only at hSw); have hcv := run_string_bs (P := Try.prog) w 40 9 5 Try.underlying40 Try.underlying5 Try.underlying9 (hB15.grown hSw); go_simp
    try with_reducible rfl
  try simp only [Act.put, List.setIfInBounds_toArray, List.set_cons_zero, List.set_cons_succ]
  refine wpAnyH_take (i := 45) (oi := { dst := some 133, op := Op.binOp BinOp.neq 9 (Operand.tmp 129) (Operand.tmp 132) 9, type := 4, pos := "outright.go:25", after := #[{ on := 41, ground := Ground.data }, { on := 44, ground := Ground.data }, { on := 38, ground := Ground.guard }], guard := some (38, false) }) (v := ?_) rfl (by kernel_rfl) (by kernel_rfl) (by kernel_rfl) (fun _ _ _ h => h) (Or.inl ⟨by simp [Region.wanted, yielded], ?_⟩) (by assumption) ?_
  rotate_left
  · intro w hSw; (try dsimp only at hSw); go_simp
    try with_reducible rfl
  try simp only [Act.put, List.setIfInBounds_toArray, List.set_cons_zero, List.set_cons_succ]
  refine wpAnyH_take (i := 46) (oi := { dst := some 134, op := Op.pick (Operand.tmp 126) (Operand.const (Value.bool true)) (Operand.tmp 133), type := 4, pos := "outright.go:25", after := #[{ on := 38, ground := Ground.data }, { on := 45, ground := Ground.data }], guard := none }) (v := ?_) rfl (by kernel_rfl) (by kernel_rfl) (by kernel_rfl) (fun _ _ _ h => h) (Or.inl ⟨by simp [Region.wanted], ?_⟩) (by assumption) ?_
  rotate_left
  · intro w hSw; (try dsimp only at hSw); go_simp
    try with_reducible rfl
  try simp only [Act.put, List.setIfInBounds_toArray, List.set_cons_zero, List.set_cons_succ]
  refine wpAnyH_done (by kernel_rfl) ?_ _
  clear hHeld hB15 hW15 hg15
  have hri := rises_any hX15
  go_wp2_with fail
  refine hri.mono ?_
  rintro e w17 ⟨rw, cw, rfl, hS17, hg17⟩
  clear hri
  have hG17 := grown_trans hG15 hg17 (by simp)
  have hwk := works_any w17
  clear hX15 hG15 hg17
  go_wp2_with fail
  go_loopw [12, 13, 14] (fun v12 v13 v14 wr => wr = w17 ∧ v12 = .int .i64 0 ∧ v13 = .int .i64 (-1) ∧ v14 = .int .i64 0) (fun _ _ _ _ => 0)
  case atStart => exact ⟨rfl, rfl, rfl, rfl⟩
  case round =>
    obtain ⟨rfl, rfl, rfl, rfl⟩ := hrel
    go_wp2_with fail
    refine hwk.mono ?_
    rintro e w19 ⟨rfl, hg19⟩
    have hG19 := grown_trans hG17 hg19 (by simp)
    go_wp2
    go_ret
    exact ⟨rfl, hG19⟩


theorem timesAgain_any (w : World) (bs at' tm : Int) (so : Option Addr) (n sc : Nat) (gl : List Gr.Rc) (hR : Gr.Rs w so n sc gl) (hat : ∀ a, so = some a → ∃ g o, a = ⟨g, o, none⟩ ∧ g < w.heap.size) :
    Calls Try.prog 6 #[.agg #[.int .i64 bs, .slice so n sc, .int .i64 at', .int .i64 tm]] w fun e w' => e = .returned (.bool true) ∧ w.grownBy w' none := by
  have hsc := hR.room
  by_cases h : 200 < n ∨ (gl.map grc).all Rc.may = false ∨ bs < 0 ∨ 1000000 < bs
  · exact timesAgain_not w bs at' tm so n sc (gl.map grc) (grs_plain hR) h
  · have h2 : (gl.map grc).all Rc.may = true := by
      cases h9 : (gl.map grc).all Rc.may with
      | true => rfl
      | false => exact absurd (.inr (.inl h9)) h
    have h3 : ¬ (200 < n) := fun h9 => h (.inl h9)
    have h4 : ¬ (bs < 0) := fun h9 => h (.inr (.inr (.inl h9)))
    have h5 : ¬ (1000000 < bs) := fun h9 => h (.inr (.inr (.inr h9)))
    cases so with
    | none =>
      obtain rfl := hR.nil rfl
      obtain rfl : n = 0 := by omega
      exact timesAgain_nil w bs at' tm (by omega) (by omega)
    | some a =>
      obtain ⟨g, o, rfl, hg⟩ := hat a rfl
      obtain ⟨t, ht, ht1, ht2⟩ := into at' (n + 1) (by omega)
      obtain ⟨v, hv⟩ : ∃ v : Nat, t + (n : Int) + 1 = (v : Int) := ⟨(t + (n : Int) + 1).toNat, by omega⟩
      obtain ⟨k, hk, hkn⟩ := into2 v (n + 1) (by omega)
      by_cases hck : sc = k
      · subst hck
        exact timesAgain_eq _ _ v t w bs at' tm g o n gl hR hg (by omega) h2 (by omega) (by omega) rfl ht ht1 ht2 hv hk hkn
      · exact timesAgain_ne k _ v t w bs at' tm g o n sc gl hR hg (by omega) h2 (by omega) (by omega) rfl ht ht1 ht2 hv hk hkn hck
end Go.Proofs.Ytmnfdiffneobpaa
