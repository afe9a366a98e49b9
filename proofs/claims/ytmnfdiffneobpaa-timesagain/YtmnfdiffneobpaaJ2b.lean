/-
  TimesAgain: the walk.
-/
import Derived.Test.YtmnfdiffneobpaaJ1
import Derived.Deep.DeepCutAuto
import Derived.Deep.CutRange
import Derived.Deep.CutBlock
namespace Go.Proofs.Ytmnfdiffneobpaa
open Go.RowKit Go.Shelf
set_option linter.unusedVariables false


set_option maxRecDepth 100000 in
set_option maxHeartbeats 8000000 in
theorem timesAgain_eq (k N1 v : Nat) (t : Int) (w : World) (bs at' tm : Int) (g o : Nat) (n : Nat) (gl : List Gr.Rc) (hR : Gr.Rs w (some ⟨g, o, none⟩) n k gl) (hgl : g < w.heap.size) (h1 : n ≤ 200) (h2 : (gl.map grc).all Rc.may = true) (hb0 : 0 ≤ bs) (hb1 : bs ≤ 1000000) (hN1 : N1 = n + 1) (ht : at'.tmod (N1 : Int) = t) (ht1 : -(N1 : Int) < t) (ht2 : t < (N1 : Int)) (hv : t + (n : Int) + 1 = (v : Int)) (hk : (v : Int).tmod (N1 : Int) = (k : Int)) (hkn : k < N1) :
    Calls Try.prog 6 #[.agg #[.int .i64 bs, .slice (some ⟨g, o, none⟩) n k, .int .i64 at', .int .i64 tm]] w fun e w' => e = .returned (.bool true) ∧ w.grownBy w' none := by
  have ga := alloc_grown w (.cells #[.int .i64 bs, .slice (some ⟨g, o, none⟩) n k, .int .i64 at', .int .i64 tm] 51)
  have k9 := World.alloc_heap_new w (.cells #[.int .i64 bs, .slice (some ⟨g, o, none⟩) n k, .int .i64 at', .int .i64 tm] 51)
  have gd := grown_trans ga (grown_drew (w.alloc (.cells #[.int .i64 bs, .slice (some ⟨g, o, none⟩) n k, .int .i64 at', .int .i64 tm] 51)) none) (by simp)
  have c0 := (grown_drew (w.alloc (.cells #[.int .i64 bs, .slice (some ⟨g, o, none⟩) n k, .int .i64 at', .int .i64 tm] 51)) none).cell (cell_of (i := 0) (v := .int .i64 bs) k9 rfl) (by simp)
  have c1 := (grown_drew (w.alloc (.cells #[.int .i64 bs, .slice (some ⟨g, o, none⟩) n k, .int .i64 at', .int .i64 tm] 51)) none).cell (cell_of (i := 1) (v := .slice (some ⟨g, o, none⟩) n k) k9 rfl) (by simp)
  have c2 := (grown_drew (w.alloc (.cells #[.int .i64 bs, .slice (some ⟨g, o, none⟩) n k, .int .i64 at', .int .i64 tm] 51)) none).cell (cell_of (i := 2) (v := .int .i64 at') k9 rfl) (by simp)
  obtain ⟨ts, hts⟩ : ∃ ts, (gl.map grc).map Rc.t = ts := ⟨_, rfl⟩
  have hlen : (gl.map grc).length = n := (grs_plain hR).len
  have htl : ts.length = n := by rw [← hts, List.length_map, hlen]
  have hmay : ∀ r ∈ gl.map grc, r.may = true := List.all_eq_true.1 h2
  have htsb : ∀ t ∈ ts, 0 ≤ t ∧ t ≤ 9007199254740992 := fun t ht => by
    rw [← hts] at ht
    obtain ⟨r, hr, rfl⟩ := List.mem_map.1 ht
    have := hmay r hr
    simp only [Rc.may, Bool.and_eq_true, decide_eq_true_eq] at this
    exact ⟨this.1, this.2.1⟩
  have hgb : ∀ r ∈ gl, r.kn ≤ 140737488355328 ∧ r.vn ≤ 140737488355328 := fun r hr => ⟨(hR.shows r hr).kb, (hR.shows r hr).vb⟩
  have hsc := hR.room
  have hst := hR.top
  have e1 : (n : Int) + 1 = (N1 : Int) := by omega
  have d0 : ¬ (N1 : Int) = 0 := by omega
  have d1 : decide ((200 : Int) < (n : Int)) = false := by simp; omega
  have d2 : decide (bs < 0) = false := by simp; omega
  have d3 : decide (1000000 < bs) = false := by simp; omega
  have hkl : k ≤ n := by omega
  have hts' : Hid _ := hts
  have htl' : Hid _ := htl
  have hN1' : Hid _ := hN1
  have hlen' : Hid _ := hlen
  have htk : Hid ((ts.take k).length = k) := by show _ = _; simp; omega
  clear hts htl hN1 hlen hkn
  go_enter Try.func6, Try.ntmps6
  go_wp2_with fail
  go_region_held3 (fun w' => w'.cell? ⟨w.heap.size, 0, none⟩ = some (.int .i64 bs) ∧ w'.cell? ⟨w.heap.size, 1, none⟩ = some (.slice (some ⟨g, o, none⟩) n k)) (first | exact ⟨c0, c1⟩ | go_keep) (fail)
  clear ga k9 c0 c1
  generalize (w.alloc (.cells #[.int .i64 bs, .slice (some ⟨g, o, none⟩) n k, .int .i64 at', .int .i64 tm] 51)).drew = wd at *
  have hR0 := hR.grown gd
  have hma := mayAll_any (some ⟨g, o, none⟩) n k (gl.map grc) (grs_plain hR0) (by omega)
  rw [h2] at hma
  go_wp2_with fail
  refine hma.mono ?_
  rintro e w1 ⟨rfl, hg1⟩
  clear hma
  have hG1 := grown_trans gd hg1 (by simp)
  have hR1 := hR0.grown hg1
  have c2 := hg1.cell c2 (by simp)
  have hnx := new_ok w1 bs hb0 (by omega)
  go_wp2_with fail
  refine hnx.mono ?_
  rintro e w2 ⟨rfl, hX2, hg2⟩
  clear hnx c2
  have hR2 := hR1.grown hg2
  have hG2 := grown_trans hG1 hg2 (by simp)
  have hpx : w1.heap.size < w2.heap.size := hX2.lt
  have hwpx : w.heap.size ≤ w1.heap.size := hG1.size
  generalize w1.heap.size = px at *
  have hn2 := num_any w2 0
  go_wp2_with fail
  refine hn2.mono ?_
  rintro e w2' ⟨rfl, rfl⟩
  clear hn2
  have hpu := put_fresh hX2 hb0 (n := n) (by omega) (some ⟨g, o, none⟩) n k (gl.map grc) (grs_plain hR2) ⟨rfl, by omega⟩ hmay ts hts'.out
  go_wp2_with fail
  refine hpu.mono ?_
  rintro e w3 ⟨rx, cx, rfl, hX3, hF3, hC3⟩
  clear hpu
  have hg3 : w.grownBy w3 none := ((Chg.of_grown hG2 _).trans hC3).grown (fun q hq e2 => by show False; change q = px at e2; omega)
  have hR3 := hR.grown hg3
  have hn3 := num_any w3 0
  go_wp2_with fail
  refine hn3.mono ?_
  rintro e w3' ⟨rfl, rfl⟩
  clear hn3
  have hsx := rise_srt (-1) bs ts
  have hco := copy_any hX3
  clear hR0 hR1 hR2 hX2 hG1 hG2 hg1 hg2 hF3 hC3
  go_wp2_with fail
  refine hco.mono ?_
  rintro e w4 ⟨pc, rcc, cc, rfl, hP4, hpc, hFc, hg4⟩
  clear hco
  have hX4 := hX3.grown hg4
  have hG4 := grown_trans hg3 hg4 (by simp)
  have hxl := hX3.lt
  have hcu := cut_ok hP4 hsx (bs + (k : Int)) (by omega) (by omega)
  rw [rise_cut] at hcu
  go_wp2_with fail
  refine hcu.mono ?_
  rintro e w5 ⟨rfl, ⟨cc2, hP5⟩, hC5⟩
  clear hcu
  have hX5 := hX4.chg hC5 (show ¬ px = pc by omega) (fun q e2 => by show ¬ q = pc; have := hX3.rlt q e2; omega)
  have hG5 : w.grownBy w5 none := ((Chg.of_grown hG4 _).trans hC5).grown (fun q hq e2 => by show False; change q = pc at e2; have := hg3.size; omega)
  have hn5 := num_any w5 0
  go_wp2_with fail
  refine hn5.mono ?_
  rintro e w5' ⟨rfl, rfl⟩
  clear hn5
  obtain ⟨bl, m, hbl, hm2, hiok, hopen', hby⟩ := bytes_known hb0 (by omega) (n := k) (by omega) htk.out (fun t ht => htsb t (List.mem_of_mem_take ht)) hP5
  go_wp2_with fail
  refine hby.mono ?_
  rintro e w6 ⟨bo, bc, rfl, hO6, hg6⟩
  clear hby
  have hop := open_any w6 bo m bc bl hO6.shows (by omega)
  go_wp2_with fail
  refine hop.mono ?_
  rintro e w7 ⟨hg7, hor⟩
  clear hop
  have he : ∃ b ro rc, e = .returned (.tuple #[.pointer (some ⟨b, 0, none⟩), .int .i64 0]) ∧ Xd w7 b ro rc bs (bs + (k : Int)) (riseL (-1) bs (ts.take k)) ∧ w6.heap.size ≤ b ∧ ∀ q, blk ro = some q → w6.heap.size ≤ q := by
    rcases hor with ⟨h9, _⟩ | ⟨_, h9, _⟩ | ⟨_, b, ro, rc, h9, h10, h11, h12⟩
    · exact absurd h9 (open_not_more hiok)
    · exact absurd hiok h9
    · exact ⟨b, ro, rc, h9, hopen' _ _ _ _ h10, h11, h12⟩
  obtain ⟨po, roo, coo, rfl, hO7, hpo, hFo⟩ := he
  clear hor hiok hopen' hO6 hbl
  have hg57 := grown_trans hg6 hg7 (by simp)
  have hX7 := hX5.grown hg57
  have hP7 := hP5.grown hg57
  have hG7 := grown_trans hG5 hg57 (by simp)
  have hR7 := hR.grown hG7
  have i1 : (0 : Int) ≤ (k : Int) := by omega
  have i2 : (k : Int) ≤ (k : Int) := by omega
  have i3 : (k : Int) ≤ (n : Int) := by omega
  have i4 : (n : Int) ≤ (k : Int) := by omega
  have hcol : pc < w6.heap.size := by have := hP5.lt; have := hg6.size; omega
  have hxr : ∀ q, blk rx = some q → q < w3'.heap.size := hX3.rlt
  have hcr : ∀ q, blk rcc = some q → w3'.heap.size ≤ q ∧ q < w6.heap.size := fun q e2 => ⟨hFc q e2, by have := hP5.rlt q e2; have := hg6.size; omega⟩
  have hws := hg3.size
  have hw46 : w3'.heap.size ≤ w6.heap.size := Nat.le_trans hg4.size (Nat.le_trans hC5.size hg6.size)
  clear hX3 hX4 hX5 hP4 hP5 hg3 hg4 hC5 hg6 hg7 hg57 hG4 hG5 hR3 hFc
  go_wp2_with fail
  refine wp_region_held_drew (S := fun _ : World => True) (by kernel_rfl) trivial (fun hHeld => ?_)
  have hgd7 := grown_drew w7 none
  have hX7 := hX7.grown hgd7
  have hP7 := hP7.grown hgd7
  have hO7 := hO7.grown hgd7
  have hG7 := grown_trans hG7 hgd7 (by simp)
  have hR7 := hR7.grown hgd7
  have h67 : w6.heap.size ≤ w7.drew.heap.size := by have := hO7.lt; omega
  clear hgd7
  generalize w7.drew = w8 at *
  refine wpAnyH_take (i := 0) (oi := { dst := some 88, op := Op.move (Operand.tmp 9), type := 27, pos := "outright.go:25", after := #[], guard := none }) (v := ?_) rfl (by kernel_rfl) (by kernel_rfl) (by kernel_rfl) (fun _ _ _ h => h) (Or.inl ⟨by simp [Region.wanted], ?_⟩) (by assumption) ?_
  rotate_left
  · intro w hSw; (try dsimp only at hSw); go_simp
    try with_reducible rfl
  try simp only [Act.put, List.setIfInBounds_toArray, List.set_cons_zero, List.set_cons_succ]
  refine wpAnyH_take (i := 1) (oi := { dst := some 89, op := Op.binOp BinOp.eql 27 (Operand.tmp 88) (Operand.const (Value.pointer none)) 27, type := 4, pos := "outright.go:25", after := #[{ on := 0, ground := Ground.data }], guard := none }) (v := ?_) rfl (by kernel_rfl) (by kernel_rfl) (by kernel_rfl) (fun _ _ _ h => h) (Or.inl ⟨by simp [Region.wanted], ?_⟩) (by assumption) ?_
  rotate_left
  · intro w hSw; (try dsimp only at hSw); go_simp
    try with_reducible rfl
  try simp only [Act.put, List.setIfInBounds_toArray, List.set_cons_zero, List.set_cons_succ]
  refine wpAnyH_take (i := 2) (oi := { dst := some 90, op := Op.move (Operand.tmp 89), type := 4, pos := "outright.go:25", after := #[{ on := 1, ground := Ground.data }], guard := none }) (v := ?_) rfl (by kernel_rfl) (by kernel_rfl) (by kernel_rfl) (fun _ _ _ h => h) (Or.inl ⟨by simp [Region.wanted], ?_⟩) (by assumption) ?_
  rotate_left
  · intro w hSw; (try dsimp only at hSw); go_simp
    try with_reducible rfl
  try simp only [Act.put, List.setIfInBounds_toArray, List.set_cons_zero, List.set_cons_succ]
  refine wpAnyH_take (i := 3) (oi := { dst := some 91, op := Op.move (Operand.tmp 10), type := 28, pos := "outright.go:25", after := #[{ on := 2, ground := Ground.guard }], guard := some (2, false) }) (v := ?_) rfl (by kernel_rfl) (by kernel_rfl) (by kernel_rfl) (fun _ _ _ h => h) (Or.inl ⟨by simp [Region.wanted, yielded], ?_⟩) (by assumption) ?_
  rotate_left
  · intro w hSw; (try dsimp only at hSw); go_simp
    try with_reducible rfl
  try simp only [Act.put, List.setIfInBounds_toArray, List.set_cons_zero, List.set_cons_succ]
  refine wpAnyH_ready (rs := [4]) (by kernel_rfl) (by simp) ?_
  refine AllReadyH.cons (o := { dst := some 92, op := Op.call { callee := Callee.value (Operand.func 9), args := #[Operand.tmp 91], argTypes := #[28] }, type := 3, pos := "outright.go:25", after := #[{ on := 3, ground := Ground.data }, { on := 2, ground := Ground.chain }, { on := 2, ground := Ground.guard }], guard := some (2, false) }) rfl (fun K hK => ?_) (AllReadyH.nil)
  go_simp
  go_at_call 9
  refine (num_any w8 0).mono ?_
  rintro e w8' ⟨rfl, rfl⟩
  try go_simp
  refine hK.out _ _ trivial (fun hHeld => ?_)
  clear hK K
  try simp only [Act.put, List.setIfInBounds_toArray, List.set_cons_zero, List.set_cons_succ]
  refine wpAnyH_take (i := 5) (oi := { dst := some 93, op := Op.binOp BinOp.neq 3 (Operand.tmp 92) (Operand.const (Value.int IntKind.i64 0)) 3, type := 4, pos := "outright.go:25", after := #[{ on := 4, ground := Ground.data }, { on := 2, ground := Ground.guard }], guard := some (2, false) }) (v := ?_) rfl (by kernel_rfl) (by kernel_rfl) (by kernel_rfl) (fun _ _ _ h => h) (Or.inl ⟨by simp [Region.wanted, yielded], ?_⟩) (by assumption) ?_
  rotate_left
  · intro w hSw; (try dsimp only at hSw); go_simp
    try with_reducible rfl
  try simp only [Act.put, List.setIfInBounds_toArray, List.set_cons_zero, List.set_cons_succ]
  refine wpAnyH_take (i := 6) (oi := { dst := some 94, op := Op.pick (Operand.tmp 90) (Operand.const (Value.bool true)) (Operand.tmp 93), type := 4, pos := "outright.go:25", after := #[{ on := 2, ground := Ground.data }, { on := 5, ground := Ground.data }], guard := none }) (v := ?_) rfl (by kernel_rfl) (by kernel_rfl) (by kernel_rfl) (fun _ _ _ h => h) (Or.inl ⟨by simp [Region.wanted], ?_⟩) (by assumption) ?_
  rotate_left
  · intro w hSw; (try dsimp only at hSw); go_simp
    try with_reducible rfl
  try simp only [Act.put, List.setIfInBounds_toArray, List.set_cons_zero, List.set_cons_succ]
  refine wpAnyH_take (i := 7) (oi := { dst := some 95, op := Op.move (Operand.tmp 94), type := 4, pos := "outright.go:25", after := #[{ on := 6, ground := Ground.data }, { on := 4, ground := Ground.chain }], guard := none }) (v := ?_) rfl (by kernel_rfl) (by kernel_rfl) (by kernel_rfl) (fun _ _ _ h => h) (Or.inl ⟨by simp [Region.wanted], ?_⟩) (by assumption) ?_
  rotate_left
  · intro w hSw; (try dsimp only at hSw); go_simp
    try with_reducible rfl
  try simp only [Act.put, List.setIfInBounds_toArray, List.set_cons_zero, List.set_cons_succ]
  refine wpAnyH_take (i := 8) (oi := { dst := some 96, op := Op.move (Operand.tmp 8), type := 27, pos := "outright.go:25", after := #[{ on := 7, ground := Ground.guard }], guard := some (7, false) }) (v := ?_) rfl (by kernel_rfl) (by kernel_rfl) (by kernel_rfl) (fun _ _ _ h => h) (Or.inl ⟨by simp [Region.wanted, yielded], ?_⟩) (by assumption) ?_
  rotate_left
  · intro w hSw; (try dsimp only at hSw); go_simp
    try with_reducible rfl
  try simp only [Act.put, List.setIfInBounds_toArray, List.set_cons_zero, List.set_cons_succ]
  refine wpAnyH_take (i := 9) (oi := { dst := some 97, op := Op.move (Operand.tmp 4), type := 24, pos := "outright.go:25", after := #[{ on := 7, ground := Ground.guard }], guard := some (7, false) }) (v := ?_) rfl (by kernel_rfl) (by kernel_rfl) (by kernel_rfl) (fun _ _ _ h => h) (Or.inl ⟨by simp [Region.wanted, yielded], ?_⟩) (by assumption) ?_
  rotate_left
  · intro w hSw; (try dsimp only at hSw); go_simp
    try with_reducible rfl
  try simp only [Act.put, List.setIfInBounds_toArray, List.set_cons_zero, List.set_cons_succ]
  refine wpAnyH_take (i := 10) (oi := { dst := some 98, op := Op.move (Operand.tmp 5), type := 3, pos := "outright.go:25", after := #[{ on := 7, ground := Ground.guard }], guard := some (7, false) }) (v := ?_) rfl (by kernel_rfl) (by kernel_rfl) (by kernel_rfl) (fun _ _ _ h => h) (Or.inl ⟨by simp [Region.wanted, yielded], ?_⟩) (by assumption) ?_
  rotate_left
  · intro w hSw; (try dsimp only at hSw); go_simp
    try with_reducible rfl
  try simp only [Act.put, List.setIfInBounds_toArray, List.set_cons_zero, List.set_cons_succ]
  refine wpAnyH_take (i := 11) (oi := { dst := some 99, op := Op.slice 24 (Operand.tmp 97) (some (Operand.tmp 98)) none none, type := 24, pos := "outright.go:25", after := #[{ on := 9, ground := Ground.data }, { on := 10, ground := Ground.data }, { on := 7, ground := Ground.guard }], guard := some (7, false) }) (v := ?_) rfl (by kernel_rfl) (by kernel_rfl) (by kernel_rfl) (fun _ _ _ h => h) (Or.inl ⟨by simp [Region.wanted, yielded], ?_⟩) (by assumption) ?_
  rotate_left
  · intro w hSw; (try dsimp only at hSw); go_simp
    try with_reducible rfl
  try simp only [Act.put, List.setIfInBounds_toArray, List.set_cons_zero, List.set_cons_succ]
  have hD8 : Gr.Rs w8' (some ⟨g, o, none⟩) 0 0 (gl.drop k) := (by have h9 := grs_drop hR7 k hkl o (.inl (by omega)); rw [show n - k = 0 by omega, Nat.sub_self] at h9; exact h9)
  have hdm : ∀ r ∈ (gl.drop k).map grc, r.may = true := fun r hr => hmay r (by rw [List.map_drop] at hr; exact List.mem_of_mem_drop hr)
  have hdt : ((gl.drop k).map grc).map Rc.t = ts.drop k := by rw [List.map_drop, List.map_drop, hts'.out]
  have hpu := put_again hP7 htk.out hb0 (n := n) (by omega) (some ⟨g, o, none⟩) 0 0 _ (grs_plain hD8) (fun q e2 e3 => by cases e2; have := (hcr g e3).1; omega) ⟨by omega, by omega⟩ hdm hdt
  rw [List.take_append_drop] at hpu
  refine wpAnyH_ready (rs := [12]) (by kernel_rfl) (by simp) ?_
  refine AllReadyH.cons (o := { dst := some 100, op := Op.call { callee := Callee.value (Operand.func 21), args := #[Operand.tmp 96, Operand.tmp 99], argTypes := #[27, 24] }, type := 28, pos := "outright.go:25", after := #[{ on := 8, ground := Ground.data }, { on := 11, ground := Ground.data }, { on := 7, ground := Ground.chain }, { on := 7, ground := Ground.guard }], guard := some (7, false) }) rfl (fun K hK => ?_) (AllReadyH.nil)
  go_simp
  go_at_call 21
  refine hpu.mono ?_
  rintro e w9 ⟨rc9, cc9, rfl, hP9, hN9, hC9⟩
  try go_simp
  refine hK.out _ _ trivial (fun hHeld => ?_)
  clear hK K
  try simp only [Act.put, List.setIfInBounds_toArray, List.set_cons_zero, List.set_cons_succ]
  clear hpu
  have hx1 : blk rcc ≠ some px := hP7.sw.not64 hX7.ix (by decide)
  have hx2 : blk rx ≠ some pc := hX7.sw.not64 hP7.ix (by decide)
  have hx3 : blk rcc ≠ some po := hP7.sw.not64 hO7.ix (by decide)
  have hx4 : blk roo ≠ some pc := hO7.sw.not64 hP7.ix (by decide)
  have hor8 : ∀ q, blk roo = some q → w6.heap.size ≤ q ∧ q < w8'.heap.size := fun q e2 => ⟨hFo q e2, hO7.rlt q e2⟩
  have hX9 := hX7.chg hC9 (fun e2 => by rcases e2 with e2 | e2; omega; exact hx1 e2) (fun q e2 e3 => by rcases e3 with e3 | e3; exact hx2 (e3 ▸ e2); have := hxr q e2; have := (hcr q e3).1; omega)
  have hO9 := hO7.chg hC9 (fun e2 => by rcases e2 with e2 | e2; omega; exact hx3 e2) (fun q e2 e3 => by rcases e3 with e3 | e3; exact hx4 (e3 ▸ e2); have := (hor8 q e2).1; have := (hcr q e3).2; omega)
  have hG9 : w.grownBy w9 none := ((Chg.of_grown hG7 _).trans hC9).grown (fun q hq e2 => by rcases e2 with e2 | e2; omega; have := (hcr q e2).1; omega)
  have hs89 := hC9.size
  have hc9 : ∀ q, blk rc9 = some q → blk roo ≠ some q := fun q e2 e3 => by
    have h9 := hor8 q e3
    rcases hN9 with ⟨rfl, _⟩ | hN9
    · have := (hcr q e2).2; omega
    · have := hN9 q e2; omega
  clear hX7 hP7 hO7 hR7 hG7 hC9 hN9 hx1 hx2 hx3 hx4 hD8
  refine wpAnyH_ready (rs := [13]) (by kernel_rfl) (by simp) ?_
  refine AllReadyH.cons (o := { dst := some 101, op := Op.call { callee := Callee.value (Operand.func 9), args := #[Operand.tmp 100], argTypes := #[28] }, type := 3, pos := "outright.go:25", after := #[{ on := 12, ground := Ground.data }, { on := 12, ground := Ground.chain }, { on := 7, ground := Ground.guard }], guard := some (7, false) }) rfl (fun K hK => ?_) (AllReadyH.nil)
  go_simp
  go_at_call 9
  refine (num_any w9 0).mono ?_
  rintro e w9' ⟨rfl, rfl⟩
  try go_simp
  refine hK.out _ _ trivial (fun hHeld => ?_)
  clear hK K
  try simp only [Act.put, List.setIfInBounds_toArray, List.set_cons_zero, List.set_cons_succ]
  refine wpAnyH_take (i := 14) (oi := { dst := some 102, op := Op.binOp BinOp.neq 3 (Operand.tmp 101) (Operand.const (Value.int IntKind.i64 0)) 3, type := 4, pos := "outright.go:25", after := #[{ on := 13, ground := Ground.data }, { on := 7, ground := Ground.guard }], guard := some (7, false) }) (v := ?_) rfl (by kernel_rfl) (by kernel_rfl) (by kernel_rfl) (fun _ _ _ h => h) (Or.inl ⟨by simp [Region.wanted, yielded], ?_⟩) (by assumption) ?_
  rotate_left
  · intro w hSw; (try dsimp only at hSw); go_simp
    try with_reducible rfl
  try simp only [Act.put, List.setIfInBounds_toArray, List.set_cons_zero, List.set_cons_succ]
  refine wpAnyH_take (i := 15) (oi := { dst := some 103, op := Op.pick (Operand.tmp 95) (Operand.const (Value.bool true)) (Operand.tmp 102), type := 4, pos := "outright.go:25", after := #[{ on := 7, ground := Ground.data }, { on := 14, ground := Ground.data }], guard := none }) (v := ?_) rfl (by kernel_rfl) (by kernel_rfl) (by kernel_rfl) (fun _ _ _ h => h) (Or.inl ⟨by simp [Region.wanted], ?_⟩) (by assumption) ?_
  rotate_left
  · intro w hSw; (try dsimp only at hSw); go_simp
    try with_reducible rfl
  try simp only [Act.put, List.setIfInBounds_toArray, List.set_cons_zero, List.set_cons_succ]
  refine wpAnyH_take (i := 16) (oi := { dst := some 104, op := Op.move (Operand.tmp 103), type := 4, pos := "outright.go:25", after := #[{ on := 15, ground := Ground.data }, { on := 13, ground := Ground.chain }], guard := none }) (v := ?_) rfl (by kernel_rfl) (by kernel_rfl) (by kernel_rfl) (fun _ _ _ h => h) (Or.inl ⟨by simp [Region.wanted], ?_⟩) (by assumption) ?_
  rotate_left
  · intro w hSw; (try dsimp only at hSw); go_simp
    try with_reducible rfl
  try simp only [Act.put, List.setIfInBounds_toArray, List.set_cons_zero, List.set_cons_succ]
  refine wpAnyH_take (i := 17) (oi := { dst := some 105, op := Op.move (Operand.tmp 9), type := 27, pos := "outright.go:25", after := #[{ on := 16, ground := Ground.guard }], guard := some (16, false) }) (v := ?_) rfl (by kernel_rfl) (by kernel_rfl) (by kernel_rfl) (fun _ _ _ h => h) (Or.inl ⟨by simp [Region.wanted, yielded], ?_⟩) (by assumption) ?_
  rotate_left
  · intro w hSw; (try dsimp only at hSw); go_simp
    try with_reducible rfl
  try simp only [Act.put, List.setIfInBounds_toArray, List.set_cons_zero, List.set_cons_succ]
  refine wpAnyH_take (i := 18) (oi := { dst := some 106, op := Op.move (Operand.tmp 4), type := 24, pos := "outright.go:25", after := #[{ on := 16, ground := Ground.guard }], guard := some (16, false) }) (v := ?_) rfl (by kernel_rfl) (by kernel_rfl) (by kernel_rfl) (fun _ _ _ h => h) (Or.inl ⟨by simp [Region.wanted, yielded], ?_⟩) (by assumption) ?_
  rotate_left
  · intro w hSw; (try dsimp only at hSw); go_simp
    try with_reducible rfl
  try simp only [Act.put, List.setIfInBounds_toArray, List.set_cons_zero, List.set_cons_succ]
  refine wpAnyH_take (i := 19) (oi := { dst := some 107, op := Op.move (Operand.tmp 5), type := 3, pos := "outright.go:25", after := #[{ on := 16, ground := Ground.guard }], guard := some (16, false) }) (v := ?_) rfl (by kernel_rfl) (by kernel_rfl) (by kernel_rfl) (fun _ _ _ h => h) (Or.inl ⟨by simp [Region.wanted, yielded], ?_⟩) (by assumption) ?_
  rotate_left
  · intro w hSw; (try dsimp only at hSw); go_simp
    try with_reducible rfl
  try simp only [Act.put, List.setIfInBounds_toArray, List.set_cons_zero, List.set_cons_succ]
  refine wpAnyH_take (i := 20) (oi := { dst := some 108, op := Op.slice 24 (Operand.tmp 106) (some (Operand.tmp 107)) none none, type := 24, pos := "outright.go:25", after := #[{ on := 18, ground := Ground.data }, { on := 19, ground := Ground.data }, { on := 16, ground := Ground.guard }], guard := some (16, false) }) (v := ?_) rfl (by kernel_rfl) (by kernel_rfl) (by kernel_rfl) (fun _ _ _ h => h) (Or.inl ⟨by simp [Region.wanted, yielded], ?_⟩) (by assumption) ?_
  rotate_left
  · intro w hSw; (try dsimp only at hSw); go_simp
    try with_reducible rfl
  try simp only [Act.put, List.setIfInBounds_toArray, List.set_cons_zero, List.set_cons_succ]
  have hR9 := hR.grown hG9
  have hD9 : Gr.Rs w9' (some ⟨g, o, none⟩) 0 0 (gl.drop k) := (by have h9 := grs_drop hR9 k hkl o (.inl (by omega)); rw [show n - k = 0 by omega, Nat.sub_self] at h9; exact h9)
  have hrc := Gr.rcopy_any w9' (some ⟨g, o, none⟩) 0 0 (gl.drop k) hD9 (by omega) (fun r hr => hgb r (List.mem_of_mem_drop hr))
  refine wpAnyH_ready (rs := [21]) (by kernel_rfl) (by simp) ?_
  refine AllReadyH.cons (o := { dst := some 109, op := Op.call { callee := Callee.value (Operand.func 26), args := #[Operand.tmp 108], argTypes := #[24] }, type := 24, pos := "outright.go:25", after := #[{ on := 20, ground := Ground.data }, { on := 16, ground := Ground.chain }, { on := 16, ground := Ground.guard }], guard := some (16, false) }) rfl (fun K hK => ?_) (AllReadyH.nil)
  go_simp
  go_at_call 26
  refine hrc.mono ?_
  rintro e w10 ⟨so10, sc10, rs10, rfl, hW10, hds10, hA10, hg10⟩
  try go_simp
  refine hK.out _ _ trivial (fun hHeld => ?_)
  clear hK K
  try simp only [Act.put, List.setIfInBounds_toArray, List.set_cons_zero, List.set_cons_succ]
  clear hrc
  have hS10 := hW10.shows (fun r hr => (hA10 r hr).rk)
  have hm10 := gmay_eq hds10 (fun r hr => (hA10 r hr).rk) hD9.shows hdm
  have ht10 := (gtimes_eq hds10).trans hdt
  have hX10 := hX9.grown hg10
  have hP10 := hP9.grown hg10
  have hO10 := hO9.grown hg10
  have hG10 := grown_trans hG9 hg10 (by simp)
  have hpu := put_again hO10 htk.out hb0 (n := n) (by omega) so10 0 sc10 _ (grs_plain hS10) (fun q e2 e3 => by have := (hW10.from_base q e2).1; have := (hor8 q e3).2; omega) ⟨by omega, by omega⟩ hm10 ht10
  rw [List.take_append_drop] at hpu
  refine wpAnyH_ready (rs := [22]) (by kernel_rfl) (by simp) ?_
  refine AllReadyH.cons (o := { dst := some 110, op := Op.call { callee := Callee.value (Operand.func 21), args := #[Operand.tmp 105, Operand.tmp 109], argTypes := #[27, 24] }, type := 28, pos := "outright.go:25", after := #[{ on := 17, ground := Ground.data }, { on := 21, ground := Ground.data }, { on := 21, ground := Ground.chain }, { on := 16, ground := Ground.guard }], guard := some (16, false) }) rfl (fun K hK => ?_) (AllReadyH.nil)
  go_simp
  go_at_call 21
  refine hpu.mono ?_
  rintro e w11 ⟨ro11, co11, rfl, hO11, hN11, hC11⟩
  try go_simp
  refine hK.out _ _ trivial (fun hHeld => ?_)
  clear hK K
  try simp only [Act.put, List.setIfInBounds_toArray, List.set_cons_zero, List.set_cons_succ]
  clear hpu
  have hx1 : blk roo ≠ some px := hO10.sw.not64 hX10.ix (by decide)
  have hx2 : blk rx ≠ some po := hX10.sw.not64 hO10.ix (by decide)
  have hx3 : blk roo ≠ some pc := hO10.sw.not64 hP10.ix (by decide)
  have hx4 : blk rc9 ≠ some po := hP10.sw.not64 hO10.ix (by decide)
  have hX11 := hX10.chg hC11 (fun e2 => by rcases e2 with e2 | e2; omega; exact hx1 e2) (fun q e2 e3 => by rcases e3 with e3 | e3; exact hx2 (e3 ▸ e2); have := hxr q e2; have := (hor8 q e3).1; omega)
  have hP11 := hP10.chg hC11 (fun e2 => by rcases e2 with e2 | e2; omega; exact hx3 e2) (fun q e2 e3 => by rcases e3 with e3 | e3; exact hx4 (e3 ▸ e2); exact hc9 q e2 e3)
  have hG11 : w.grownBy w11 none := ((Chg.of_grown hG10 _).trans hC11).grown (fun q hq e2 => by rcases e2 with e2 | e2; omega; have := (hor8 q e2).1; omega)
  clear hX9 hP9 hO9 hR9 hG9 hX10 hP10 hO10 hG10 hC11 hN11 hx1 hx2 hx3 hx4 hD9 hS10 hm10 ht10 hA10 hds10 hW10 hg10 hdm hdt
  refine wpAnyH_ready (rs := [23]) (by kernel_rfl) (by simp) ?_
  refine AllReadyH.cons (o := { dst := some 111, op := Op.call { callee := Callee.value (Operand.func 9), args := #[Operand.tmp 110], argTypes := #[28] }, type := 3, pos := "outright.go:25", after := #[{ on := 22, ground := Ground.data }, { on := 22, ground := Ground.chain }, { on := 16, ground := Ground.guard }], guard := some (16, false) }) rfl (fun K hK => ?_) (AllReadyH.nil)
  go_simp
  go_at_call 9
  refine (num_any w11 0).mono ?_
  rintro e w11' ⟨rfl, rfl⟩
  try go_simp
  refine hK.out _ _ trivial (fun hHeld => ?_)
  clear hK K
  try simp only [Act.put, List.setIfInBounds_toArray, List.set_cons_zero, List.set_cons_succ]
  refine wpAnyH_take (i := 24) (oi := { dst := some 112, op := Op.binOp BinOp.neq 3 (Operand.tmp 111) (Operand.const (Value.int IntKind.i64 0)) 3, type := 4, pos := "outright.go:25", after := #[{ on := 23, ground := Ground.data }, { on := 16, ground := Ground.guard }], guard := some (16, false) }) (v := ?_) rfl (by kernel_rfl) (by kernel_rfl) (by kernel_rfl) (fun _ _ _ h => h) (Or.inl ⟨by simp [Region.wanted, yielded], ?_⟩) (by assumption) ?_
  rotate_left
  · intro w hSw; (try dsimp only at hSw); go_simp
    try with_reducible rfl
  try simp only [Act.put, List.setIfInBounds_toArray, List.set_cons_zero, List.set_cons_succ]
  refine wpAnyH_take (i := 25) (oi := { dst := some 113, op := Op.pick (Operand.tmp 104) (Operand.const (Value.bool true)) (Operand.tmp 112), type := 4, pos := "outright.go:25", after := #[{ on := 16, ground := Ground.data }, { on := 24, ground := Ground.data }], guard := none }) (v := ?_) rfl (by kernel_rfl) (by kernel_rfl) (by kernel_rfl) (fun _ _ _ h => h) (Or.inl ⟨by simp [Region.wanted], ?_⟩) (by assumption) ?_
  rotate_left
  · intro w hSw; (try dsimp only at hSw); go_simp
    try with_reducible rfl
  try simp only [Act.put, List.setIfInBounds_toArray, List.set_cons_zero, List.set_cons_succ]
  refine wpAnyH_take (i := 26) (oi := { dst := some 114, op := Op.move (Operand.tmp 113), type := 4, pos := "outright.go:25", after := #[{ on := 25, ground := Ground.data }, { on := 23, ground := Ground.chain }], guard := none }) (v := ?_) rfl (by kernel_rfl) (by kernel_rfl) (by kernel_rfl) (fun _ _ _ h => h) (Or.inl ⟨by simp [Region.wanted], ?_⟩) (by assumption) ?_
  rotate_left
  · intro w hSw; (try dsimp only at hSw); go_simp
    try with_reducible rfl
  try simp only [Act.put, List.setIfInBounds_toArray, List.set_cons_zero, List.set_cons_succ]
  refine wpAnyH_take (i := 27) (oi := { dst := some 115, op := Op.move (Operand.tmp 8), type := 27, pos := "outright.go:25", after := #[{ on := 26, ground := Ground.guard }], guard := some (26, false) }) (v := ?_) rfl (by kernel_rfl) (by kernel_rfl) (by kernel_rfl) (fun _ _ _ h => h) (Or.inl ⟨by simp [Region.wanted, yielded], ?_⟩) (by assumption) ?_
  rotate_left
  · intro w hSw; (try dsimp only at hSw); go_simp
    try with_reducible rfl
  try simp only [Act.put, List.setIfInBounds_toArray, List.set_cons_zero, List.set_cons_succ]
  refine wpAnyH_take (i := 28) (oi := { dst := some 116, op := Op.move (Operand.tmp 6), type := 27, pos := "outright.go:25", after := #[{ on := 26, ground := Ground.guard }], guard := some (26, false) }) (v := ?_) rfl (by kernel_rfl) (by kernel_rfl) (by kernel_rfl) (fun _ _ _ h => h) (Or.inl ⟨by simp [Region.wanted, yielded], ?_⟩) (by assumption) ?_
  rotate_left
  · intro w hSw; (try dsimp only at hSw); go_simp
    try with_reducible rfl
  try simp only [Act.put, List.setIfInBounds_toArray, List.set_cons_zero, List.set_cons_succ]
  refine wpAnyH_ready (rs := [29]) (by kernel_rfl) (by simp) ?_
  refine AllReadyH.cons (o := { dst := some 117, op := Op.call { callee := Callee.value (Operand.func 13), args := #[Operand.tmp 115, Operand.tmp 116], argTypes := #[27, 27] }, type := 4, pos := "outright.go:25", after := #[{ on := 27, ground := Ground.data }, { on := 28, ground := Ground.data }, { on := 26, ground := Ground.chain }, { on := 26, ground := Ground.guard }], guard := some (26, false) }) rfl (fun K hK => ?_) (AllReadyH.nil)
  go_simp
  go_at_call 13
  refine (same_yes hP11 hX11).mono ?_
  rintro e w12 ⟨rfl, hg12⟩
  try go_simp
  refine hK.out _ _ trivial (fun hHeld => ?_)
  clear hK K
  try simp only [Act.put, List.setIfInBounds_toArray, List.set_cons_zero, List.set_cons_succ]
  have hX12 := hX11.grown hg12
  have hO12 := hO11.grown hg12
  have hG12 := grown_trans hG11 hg12 (by simp)
  refine wpAnyH_take (i := 30) (oi := { dst := some 118, op := Op.unOp UnOp.not 4 (Operand.tmp 117), type := 4, pos := "outright.go:25", after := #[{ on := 29, ground := Ground.data }, { on := 26, ground := Ground.guard }], guard := some (26, false) }) (v := ?_) rfl (by kernel_rfl) (by kernel_rfl) (by kernel_rfl) (fun _ _ _ h => h) (Or.inl ⟨by simp [Region.wanted, yielded], ?_⟩) (by assumption) ?_
  rotate_left
  · intro w hSw; (try dsimp only at hSw); go_simp
    try with_reducible rfl
  try simp only [Act.put, List.setIfInBounds_toArray, List.set_cons_zero, List.set_cons_succ]
  refine wpAnyH_take (i := 31) (oi := { dst := some 119, op := Op.pick (Operand.tmp 114) (Operand.const (Value.bool true)) (Operand.tmp 118), type := 4, pos := "outright.go:25", after := #[{ on := 26, ground := Ground.data }, { on := 30, ground := Ground.data }], guard := none }) (v := ?_) rfl (by kernel_rfl) (by kernel_rfl) (by kernel_rfl) (fun _ _ _ h => h) (Or.inl ⟨by simp [Region.wanted], ?_⟩) (by assumption) ?_
  rotate_left
  · intro w hSw; (try dsimp only at hSw); go_simp
    try with_reducible rfl
  try simp only [Act.put, List.setIfInBounds_toArray, List.set_cons_zero, List.set_cons_succ]
  refine wpAnyH_take (i := 32) (oi := { dst := some 120, op := Op.move (Operand.tmp 119), type := 4, pos := "outright.go:25", after := #[{ on := 31, ground := Ground.data }, { on := 29, ground := Ground.chain }], guard := none }) (v := ?_) rfl (by kernel_rfl) (by kernel_rfl) (by kernel_rfl) (fun _ _ _ h => h) (Or.inl ⟨by simp [Region.wanted], ?_⟩) (by assumption) ?_
  rotate_left
  · intro w hSw; (try dsimp only at hSw); go_simp
    try with_reducible rfl
  try simp only [Act.put, List.setIfInBounds_toArray, List.set_cons_zero, List.set_cons_succ]
  refine wpAnyH_take (i := 33) (oi := { dst := some 121, op := Op.move (Operand.tmp 9), type := 27, pos := "outright.go:25", after := #[{ on := 32, ground := Ground.guard }], guard := some (32, false) }) (v := ?_) rfl (by kernel_rfl) (by kernel_rfl) (by kernel_rfl) (fun _ _ _ h => h) (Or.inl ⟨by simp [Region.wanted, yielded], ?_⟩) (by assumption) ?_
  rotate_left
  · intro w hSw; (try dsimp only at hSw); go_simp
    try with_reducible rfl
  try simp only [Act.put, List.setIfInBounds_toArray, List.set_cons_zero, List.set_cons_succ]
  refine wpAnyH_take (i := 34) (oi := { dst := some 122, op := Op.move (Operand.tmp 6), type := 27, pos := "outright.go:25", after := #[{ on := 32, ground := Ground.guard }], guard := some (32, false) }) (v := ?_) rfl (by kernel_rfl) (by kernel_rfl) (by kernel_rfl) (fun _ _ _ h => h) (Or.inl ⟨by simp [Region.wanted, yielded], ?_⟩) (by assumption) ?_
  rotate_left
  · intro w hSw; (try dsimp only at hSw); go_simp
    try with_reducible rfl
  try simp only [Act.put, List.setIfInBounds_toArray, List.set_cons_zero, List.set_cons_succ]
  refine wpAnyH_ready (rs := [35]) (by kernel_rfl) (by simp) ?_
  refine AllReadyH.cons (o := { dst := some 123, op := Op.call { callee := Callee.value (Operand.func 13), args := #[Operand.tmp 121, Operand.tmp 122], argTypes := #[27, 27] }, type := 4, pos := "outright.go:25", after := #[{ on := 33, ground := Ground.data }, { on := 34, ground := Ground.data }, { on := 32, ground := Ground.chain }, { on := 32, ground := Ground.guard }], guard := some (32, false) }) rfl (fun K hK => ?_) (AllReadyH.nil)
  go_simp
  go_at_call 13
  refine (same_yes hO12 hX12).mono ?_
  rintro e w13 ⟨rfl, hg13⟩
  try go_simp
  refine hK.out _ _ trivial (fun hHeld => ?_)
  clear hK K
  try simp only [Act.put, List.setIfInBounds_toArray, List.set_cons_zero, List.set_cons_succ]
  have hX13 := hX12.grown hg13
  have hO13 := hO12.grown hg13
  have hG13 := grown_trans hG12 hg13 (by simp)
  obtain ⟨bl1, m1, hbl1, _, _, _, hby1⟩ := bytes_known hb0 (by omega) (n := n) (by omega) htl'.out htsb hO13
  clear hX11 hP11 hO11 hG11 hX12 hO12 hG12 hg12 hg13
  refine wpAnyH_take (i := 36) (oi := { dst := some 124, op := Op.unOp UnOp.not 4 (Operand.tmp 123), type := 4, pos := "outright.go:25", after := #[{ on := 35, ground := Ground.data }, { on := 32, ground := Ground.guard }], guard := some (32, false) }) (v := ?_) rfl (by kernel_rfl) (by kernel_rfl) (by kernel_rfl) (fun _ _ _ h => h) (Or.inl ⟨by simp [Region.wanted, yielded], ?_⟩) (by assumption) ?_
  rotate_left
  · intro w hSw; (try dsimp only at hSw); go_simp
    try with_reducible rfl
  try simp only [Act.put, List.setIfInBounds_toArray, List.set_cons_zero, List.set_cons_succ]
  refine wpAnyH_take (i := 37) (oi := { dst := some 125, op := Op.pick (Operand.tmp 120) (Operand.const (Value.bool true)) (Operand.tmp 124), type := 4, pos := "outright.go:25", after := #[{ on := 32, ground := Ground.data }, { on := 36, ground := Ground.data }], guard := none }) (v := ?_) rfl (by kernel_rfl) (by kernel_rfl) (by kernel_rfl) (fun _ _ _ h => h) (Or.inl ⟨by simp [Region.wanted], ?_⟩) (by assumption) ?_
  rotate_left
  · intro w hSw; (try dsimp only at hSw); go_simp
    try with_reducible rfl
  try simp only [Act.put, List.setIfInBounds_toArray, List.set_cons_zero, List.set_cons_succ]
  refine wpAnyH_take (i := 38) (oi := { dst := some 126, op := Op.move (Operand.tmp 125), type := 4, pos := "outright.go:25", after := #[{ on := 37, ground := Ground.data }, { on := 35, ground := Ground.chain }], guard := none }) (v := ?_) rfl (by kernel_rfl) (by kernel_rfl) (by kernel_rfl) (fun _ _ _ h => h) (Or.inl ⟨by simp [Region.wanted], ?_⟩) (by assumption) ?_
  rotate_left
  · intro w hSw; (try dsimp only at hSw); go_simp
    try with_reducible rfl
  try simp only [Act.put, List.setIfInBounds_toArray, List.set_cons_zero, List.set_cons_succ]
  refine wpAnyH_take (i := 39) (oi := { dst := some 127, op := Op.move (Operand.tmp 9), type := 27, pos := "outright.go:25", after := #[{ on := 38, ground := Ground.guard }], guard := some (38, false) }) (v := ?_) rfl (by kernel_rfl) (by kernel_rfl) (by kernel_rfl) (fun _ _ _ h => h) (Or.inl ⟨by simp [Region.wanted, yielded], ?_⟩) (by assumption) ?_
  rotate_left
  · intro w hSw; (try dsimp only at hSw); go_simp
    try with_reducible rfl
  try simp only [Act.put, List.setIfInBounds_toArray, List.set_cons_zero, List.set_cons_succ]
  refine wpAnyH_take (i := 42) (oi := { dst := some 130, op := Op.move (Operand.tmp 6), type := 27, pos := "outright.go:25", after := #[{ on := 38, ground := Ground.guard }], guard := some (38, false) }) (v := ?_) rfl (by kernel_rfl) (by kernel_rfl) (by kernel_rfl) (fun _ _ _ h => h) (Or.inl ⟨by simp [Region.wanted, yielded], ?_⟩) (by assumption) ?_
  rotate_left
  · intro w hSw; (try dsimp only at hSw); go_simp
    try with_reducible rfl
  try simp only [Act.put, List.setIfInBounds_toArray, List.set_cons_zero, List.set_cons_succ]
  refine wpAnyH_ready (rs := [40]) (by kernel_rfl) (by simp) ?_
  refine AllReadyH.cons (o := { dst := some 128, op := Op.call { callee := Callee.value (Operand.func 12), args := #[Operand.tmp 127], argTypes := #[27] }, type := 40, pos := "outright.go:25", after := #[{ on := 39, ground := Ground.data }, { on := 38, ground := Ground.chain }, { on := 38, ground := Ground.guard }], guard := some (38, false) }) rfl (fun K hK => ?_) (AllReadyH.nil)
  go_simp
  go_at_call 12
  refine hby1.mono ?_
  rintro e w14 ⟨bo1, bc1, rfl, hW14, hg14⟩
  try go_simp
  refine hK.out _ _ trivial (fun hHeld => ?_)
  clear hK K
  try simp only [Act.put, List.setIfInBounds_toArray, List.set_cons_zero, List.set_cons_succ]
  have hX14 := hX13.grown hg14
  have hG14 := grown_trans hG13 hg14 (by simp)
  have hB14 := hW14.shows
  obtain ⟨bl2, m2, hbl2, _, _, _, hby2⟩ := bytes_known hb0 (by omega) (n := n) (by omega) htl'.out htsb hX14
  obtain rfl : bl2 = bl1 := hbl2.out.trans hbl1.out.symm
  clear hby1 hbl1 hbl2 hX13 hO13 hG13 hHeld
  refine wpAnyH_mono (S2 := fun W : World => w14.grownBy W none) (fun _ _ => trivial) _ _ _ _ ?_
  have hHeld : (fun W : World => w14.grownBy W none) w14 := grown_refl _ _
  refine wpAnyH_take (i := 41) (oi := { dst := some 129, op := Op.convert 40 9 (Operand.tmp 128), type := 9, pos := "outright.go:25", after := #[{ on := 40, ground := Ground.data }, { on := 38, ground := Ground.guard }], guard := some (38, false) }) (v := ?_) rfl (by kernel_rfl) (by kernel_rfl) (by kernel_rfl) (fun _ _ _ h => h) (Or.inl ⟨by simp [Region.wanted, yielded], ?_⟩) (by assumption) ?_
  rotate_left
  · intro w hSw; (try dsimp only at hSw); have hcv := run_string_bs (P := Try.prog) w 40 9 5 Try.underlying40 Try.underlying5 Try.underlying9 (hB14.grown hSw); go_simp
    try with_reducible rfl
  try simp only [Act.put, List.setIfInBounds_toArray, List.set_cons_zero, List.set_cons_succ]
  refine wpAnyH_ready (rs := [43]) (by kernel_rfl) (by simp) ?_
  refine AllReadyH.cons (o := { dst := some 131, op := Op.call { callee := Callee.value (Operand.func 12), args := #[Operand.tmp 130], argTypes := #[27] }, type := 40, pos := "outright.go:25", after := #[{ on := 42, ground := Ground.data }, { on := 40, ground := Ground.chain }, { on := 38, ground := Ground.guard }], guard := some (38, false) }) rfl (fun K hK => ?_) (AllReadyH.nil)
  go_simp
  go_at_call 12
  refine hby2.mono ?_
  rintro e w15 ⟨bo2, bc2, rfl, hW15, hg15⟩
  try go_simp
  refine hK.out _ _ hg15 (fun hHeld => ?_)
  clear hK K
  try simp only [Act.put, List.setIfInBounds_toArray, List.set_cons_zero, List.set_cons_succ]
  have hX15 := hX14.grown hg15
  have hG15 := grown_trans hG14 hg15 (by simp)
  have hB15 := hW15.shows
  clear hby2 hHeld hX14 hG14 hB14 hW14 hg14
  refine wpAnyH_mono (S2 := fun W : World => w15.grownBy W none) (fun _ hw => grown_trans hg15 hw (by simp)) _ _ _ _ ?_
  have hHeld : (fun W : World => w15.grownBy W none) w15 := grown_refl _ _
  refine wpAnyH_take (i := 44) (oi := { dst := some 132, op := Op.convert 40 9 (Operand.tmp 131), type := 9, pos := "outright.go:25", after := #[{ on := 43, ground := Ground.data }, { on := 38, ground := Ground.guard }], guard := some (38, false) }) (v := ?_) rfl (by kernel_rfl) (by kernel_rfl) (by kernel_rfl) (fun _ _ _ h => h) (Or.inl ⟨by simp [Region.wanted, yielded], ?_⟩) (by assumption) ?_
  rotate_left
  · intro w hSw; (try dsimp only at hSw); have hcv := run_string_bs (P := Try.prog) w 40 9 5 Try.underlying40 Try.underlying5 Try.underlying9 (hB15.grown hSw); go_simp
    try with_reducible rfl
  try simp only [Act.put, List.setIfInBounds_toArray, List.set_cons_zero, List.set_cons_succ]
  refine wpAnyH_take (i := 45) (oi := { dst := some 133, op := Op.binOp BinOp.neq 9 (Operand.tmp 129) (Operand.tmp 132) 9, type := 4, pos := "outright.go:25", after := #[{ on := 41, ground := Ground.data }, { on := 44, ground := Ground.data }, { on := 38, ground := Ground.guard }], guard := some (38, false) }) (v := ?_) rfl (by kernel_rfl) (by kernel_rfl) (by kernel_rfl) (fun _ _ _ h => h) (Or.inl ⟨by simp [Region.wanted, yielded], ?_⟩) (by assumption) ?_
  rotate_left
  · intro w hSw; (try dsimp only at hSw); go_simp
    try with_reducible rfl
  try simp only [Act.put, List.setIfInBounds_toArray, List.set_cons_zero, List.set_cons_succ]
  refine wpAnyH_take (i := 46) (oi := { dst := some 134, op := Op.pick (Operand.tmp 126) (Operand.const (Value.bool true)) (Operand.tmp 133), type := 4, pos := "outright.go:25", after := #[{ on := 38, ground := Ground.data }, { on := 45, ground := Ground.data }], guard := none }) (v := ?_) rfl (by kernel_rfl) (by kernel_rfl) (by kernel_rfl) (fun _ _ _ h => h) (Or.inl ⟨by simp [Region.wanted], ?_⟩) (by assumption) ?_
  rotate_left
  · intro w hSw; (try dsimp only at hSw); go_simp
    try with_reducible rfl
  try simp only [Act.put, List.setIfInBounds_toArray, List.set_cons_zero, List.set_cons_succ]
  refine wpAnyH_done (by kernel_rfl) ?_ _
  clear hHeld hB15 hW15 hg15
  have hri := rises_any hX15
  go_wp2_with fail
  refine hri.mono ?_
  rintro e w17 ⟨rw, cw, rfl, hS17, hg17⟩
  clear hri
  have hG17 := grown_trans hG15 hg17 (by simp)
  have hR17 := grs_plain (hR.grown hG17)
  have hfew := riseL_len (-1) bs ts
  have hfew2 : (riseL (-1) bs ts).length ≤ 200 := by have := htl'.out; omega
  obtain ⟨L, hL⟩ : ∃ L, riseL (-1) bs ts = L := ⟨_, rfl⟩
  rw [hL] at hS17 hfew2
  simp only [hL]
  obtain ⟨l, hl⟩ : ∃ l, L.length = l := ⟨_, rfl⟩
  rw [hl] at hS17 hfew2
  simp only [hl]
  replace hL : Hid _ := hL
  replace hl : Hid _ := hl
  clear hX15 hfew hG15 hg17
  have hwk := works_any w17
  have hne := ne64
  go_wp2_with fail
  go_loopw [12, 13, 14] (fun v12 v13 v14 wr => wr = w17 ∧ ∃ (i m : Nat) (top : Int), v12 = .int .i64 m ∧ v13 = .int .i64 top ∧ v14 = .int .i64 i ∧ i ≤ n ∧ m ≤ i ∧ Tp bs ts i m top) (fun _ _ v14 _ => n - (intOf v14).toNat)
  case atStart => exact ⟨rfl, 0, 0, -1, rfl, rfl, rfl, Nat.zero_le _, Nat.le_refl _, Tp.start _ _⟩
  case round =>
    obtain ⟨rfl, i, m, top, rfl, rfl, rfl, hi, hmi, hT⟩ := hrel
    by_cases hlt : i < n
    · have d4 : decide ((i : Int) < (n : Int)) = true := by simp; omega
      obtain ⟨r, hr⟩ : ∃ r, (gl.map grc)[i]? = some r := ⟨_, List.getElem?_eq_getElem (by have := hlen'.out; omega)⟩
      obtain ⟨g', o', he, hcs⟩ := hR17.pl (by omega)
      cases he
      obtain ⟨q0, q1, q2⟩ := hcs i r hr
      have hil : i < ts.length := by have := htl'.out; omega
      have htr : ts[i] = r.t := by
        have h9 : ts[i]? = some r.t := by rw [← hts'.out, List.getElem?_map, hr]; rfl
        rw [List.getElem?_eq_getElem hil] at h9
        exact Option.some.inj h9
      have j1 : (0 : Int) ≤ (i : Int) := by omega
      have j2 : (i : Int) < (n : Int) := by omega
      by_cases hq : r.t ≤ top
      · have d5 : decide (r.t ≤ top) = true := by simpa using hq
        have hT2 := hT.skip hil (by rw [htr]; exact hq)
        clear hT hcs hr htr hq hwk hne
        go_wp2
        go_roundw
        case rel => exact ⟨trivial, i + 1, m, top, rfl, rfl, by go_num, by omega, by omega, hT2⟩
        case measure => simp [intOf]; omega
      · have d5 : decide (r.t ≤ top) = false := by simpa using hq
        obtain ⟨hT2, hat⟩ := hT.rise hil (by rw [htr]; omega)
        rw [htr] at hT2 hat
        rw [hL.out] at hat
        have hml : m < l := by
          have h9 := (List.getElem?_eq_some_iff.1 hat).1
          have := hl.out
          omega
        have d6 : decide ((l : Int) ≤ (m : Int)) = false := by simp; omega
        obtain ⟨gw, rfl, _, _⟩ := hS17.addr (by omega)
        have p0 := hS17.at hat 0 (by decide)
        have p1 := hS17.at hat 1 (by decide)
        simp only [Sd.cells, List.getElem?_cons_zero, List.getElem?_cons_succ, Nat.add_zero] at p0 p1
        have j3 : (0 : Int) ≤ (m : Int) := by omega
        have j4 : (m : Int) < (l : Int) := by omega
        clear hT hcs hr htr hq hwk hat hS17
        go_wp2
        go_roundw
        case rel => exact ⟨trivial, i + 1, m + 1, r.t, by go_num, rfl, by go_num, by omega, by omega, hT2⟩
        case measure => simp [intOf]; omega
    · have d4 : decide ((i : Int) < (n : Int)) = false := by simp; omega
      have hml : m = l := by
        have h9 : i = ts.length := by have := htl'.out; omega
        rw [h9] at hT
        have := hT.done
        rw [hL.out, hl.out] at this
        exact this.symm
      have d7 : ((m : Int) == (l : Int)) = true := by simp; omega
      clear hml hT hne
      go_wp2_with fail
      refine hwk.mono ?_
      rintro e w19 ⟨rfl, hg19⟩
      have hG19 := grown_trans hG17 hg19 (by simp)
      go_wp2
      go_ret
      exact ⟨rfl, hG19⟩


end Go.Proofs.Ytmnfdiffneobpaa
