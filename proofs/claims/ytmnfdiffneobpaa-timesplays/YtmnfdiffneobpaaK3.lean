/-
  Join.
-/
import Derived.Test.YtmnfdiffneobpaaK1
namespace Go.Proofs.Ytmnfdiffneobpaa
open Go.RowKit Go.Shelf
set_option linter.unusedVariables false


theorem Parts.drop {pB : Sd → Bool} {l : List Sd} {n : Nat} (h : Parts pB l n) : l.filter pB = l.drop n := by
  conv => lhs; rw [← List.take_append_drop n l]
  rw [List.filter_append, List.filter_eq_nil_iff.2, List.filter_eq_self.2, List.nil_append]
  · intro s hs
    obtain ⟨i, hi, rfl⟩ := List.mem_iff_getElem.1 hs
    rw [List.getElem_drop]
    simp only [List.length_drop] at hi
    exact h.yes _ (by omega) (by omega)
  · intro s hs
    obtain ⟨i, hi, rfl⟩ := List.mem_iff_getElem.1 hs
    rw [List.getElem_take]
    simp only [List.length_take] at hi
    rw [h.no _ (by omega) (by omega)]
    simp
theorem Sw.room {w : World} {base n cap : Nat} {ao : Option Addr} {l : List Sd} (h : Sw w base ao n cap l) : n ≤ cap := by
  rcases h.row.2 with ⟨hv, h0⟩ | ⟨g, c, cur, hv, _, _, h3, _⟩
  · omega
  · cases hv; exact h3
theorem Sw.top {w : World} {base n cap : Nat} {ao : Option Addr} {l : List Sd} (h : Sw w base ao n cap l) : cap ≤ maxLen := by
  rcases h.row.2 with ⟨hv, h0⟩ | ⟨g, c, cur, hv, _, _, _, h3, _⟩
  · cases hv; exact Nat.zero_le _
  · cases hv; exact h3
theorem Sw.form {w : World} {base n cap : Nat} {ao : Option Addr} {l : List Sd} (h : Sw w base ao n cap l) : (ao = none ∧ n = 0 ∧ cap = 0) ∨ ∃ g, ao = some ⟨g, 0, none⟩ := by
  rcases h.row.2 with ⟨hv, h0⟩ | ⟨g, c, cur, hv, _⟩
  · cases hv; exact .inl ⟨rfl, rfl, rfl⟩
  · cases hv; exact .inr ⟨g, rfl⟩
theorem Ss.drop {w : World} {g n : Nat} {l : List Sd} (h : Ss w (some ⟨g, 0, none⟩) n l) (k : Nat) (hk : k ≤ n) (o : Nat) (ho : n - k = 0 ∨ o = k * 2) : Ss w (some ⟨g, o, none⟩) (n - k) (l.drop k) := by
  refine ⟨by rw [List.length_drop, h.len], fun ad e j u hu => ?_, fun e => by cases e⟩
  cases e
  have hj := (List.getElem?_eq_some_iff.1 hu).1
  rw [tcells_len, List.length_drop, h.len] at hj
  rcases ho with ho | rfl
  · omega
  · have hc := h.src _ rfl (k * 2 + j) u (by
      conv => lhs; rw [← List.take_append_drop k l, tcells_append]
      have hl : (tcells (l.take k)).length = k * 2 := by rw [tcells_len, List.length_take, h.len, Nat.min_eq_left hk]
      rw [List.getElem?_append_right (by omega), hl, show k * 2 + j - k * 2 = j by omega]
      exact hu)
    rw [Addr.add_lit] at hc ⊢
    rw [Nat.zero_add] at hc
    exact hc

section
variable {w w' : World}
set_option maxRecDepth 100000 in
set_option maxHeartbeats 4000000 in
theorem join_ok {b1 b2 c1 c2 : Nat} {r1 r2 : Option Addr} {bs1 en1 en2 : Int} {l1 l2 : List Sd} (h1 : Xd w b1 r1 c1 bs1 en1 l1) (h2 : Xd w b2 r2 c2 en1 en2 l2) (hne : b1 ≠ b2) (hfar : ∀ k, blk r1 = some k → blk r2 ≠ some k) (hs2 : Srt l2) (he2 : en2 ≤ 9007199254740993) (hfit : (l1 ++ l2.filter (fun s => decide (topR l1 < s.p))).length ≤ 65536) :
    Calls Try.prog 25 #[.pointer (some ⟨b1, 0, none⟩), .pointer (some ⟨b2, 0, none⟩)] w fun e w' => e = .returned (.int .i64 0) ∧ ∃ ro' rc', Xd w' b1 ro' rc' bs1 en2 (l1 ++ l2.filter (fun s => decide (topR l1 < s.p))) ∧ Near w r1 c1 ro' rc' ∧ Chg w w' (fun q => q = b1 ∨ blk r1 = some q) := by
  have hmf := hmf
  have hrb : blk r1 ≠ some b2 := h1.sw.not64 h2.ix (by decide)
  have hb2r : blk r2 ≠ some b1 := h2.sw.not64 h1.ix (by decide)
  have ht1 := there_yes h1.ix.c3
  have ht2 := there_yes h2.ix.c3
  have x1 := h1.ix.c1
  have y0 := h2.ix.c0
  have d1 : (en1 == en1) = true := by simp
  have hfew1 := h1.few
  have hfew2 := h2.few
  go_enter Try.func25, Try.ntmps25
  go_wp2_with fail
  refine ht1.mono ?_
  rintro e w ⟨rfl, rfl⟩
  go_wp2_with fail
  refine ht2.mono ?_
  rintro e w ⟨rfl, rfl⟩
  clear ht1 ht2
  go_wp2_with fail
  go_quiet (fail)
  have hgn := grown_drewN w nq none
  have hXn1 := h1.grown hgn
  have hXn2 := h2.grown hgn
  have hgr := greatest_any hXn1
  clear x1 y0
  generalize w.drewN nq = wn at *
  go_wp2_with fail
  refine hgr.mono ?_
  rintro e w2 ⟨rfl, hg2⟩
  clear hgr
  have hG2 := grown_trans hgn hg2 (by simp)
  have hg3 := alloc_grown w2 (.cells #[.int .i64 (topR l1)] 2)
  have hbx := Boxed.new w2 2 (.int .i64 (topR l1))
  have hG3 := grown_trans hG2 hg3 (by simp)
  have hX31 := h1.grown hG3
  have hX32 := h2.grown hG3
  have y2 := hX32.ix.c2
  have hah := ahead61 _ r2 l2.length c2 l2 hX32.sw hX32.few w2.heap.size (topR l1) hbx.cell (hs2.m61 (topR l1))
  go_wp2_with fail
  generalize w2.alloc (.cells #[.int .i64 (topR l1)] 2) = w3 at *
  refine hah.mono ?_
  rintro e w4 ⟨k, rfl, hP, hg4⟩
  clear hah
  have hG4 := grown_trans hG3 hg4 (by simp)
  have hX1 := h1.grown hG4
  have hX2 := h2.grown hG4
  have hfi := hP.drop
  have hkl := hP.le
  have hfiH : Hid _ := hfi
  rw [hfi, List.length_append, List.length_drop] at hfit
  have y2 := hX2.ix.c2
  have y1 := hX2.ix.c1
  have i1 : (0 : Int) ≤ (k : Int) := by omega
  have i2 : (k : Int) ≤ (l2.length : Int) := by omega
  clear hfi hP hX31 hX32 hXn1 hXn2 hbx
  have hroom := hX2.sw.room
  have htop := hX2.sw.top
  have i3 : (l2.length : Int) ≤ (c2 : Int) := by omega
  by_cases hck : k = c2
  · subst hck
    have h0 : l2.drop k = [] := List.drop_of_length_le hroom
    rw [h0] at hfiH
    have hSs : ∀ {V : World}, Sw V 0 r2 l2.length k l2 → Ss V r2 0 [] := fun hs => ⟨rfl, fun ad e j u hu => by simp [tcells] at hu, fun _ => rfl⟩
    have hl12 : l1.length ≤ 65536 := hfew1
    clear h0
    go_wp2_with fail
    have hSS : ∀ V, w4.grownBy V none → (fun w' : World => w'.cell? ⟨b2, 2, none⟩ = some (.slice r2 l2.length k) ∧ w'.cell? ⟨b2, 1, none⟩ = some (.int .i64 en2)) V := fun V hV => ⟨hV.cell y2 (by simp), hV.cell y1 (by simp)⟩
    have hgd := grown_drew w4 none
    have hXd1 := hX1.grown hgd
    have hXd2 := hX2.grown hgd
    refine wp_region_held_drew (S := fun w' : World => w'.cell? ⟨b2, 2, none⟩ = some (.slice r2 l2.length k) ∧ w'.cell? ⟨b2, 1, none⟩ = some (.int .i64 en2)) (by kernel_rfl) (hSS _ hgd) (fun hHeld => ?_)
    generalize w4.drew = wd at *
    have x2 := hXd1.ix.c2
    refine wpAnyH_take (i := 0) (oi := { dst := some 32, op := Op.move (Operand.tmp 0), type := 27, pos := "times.go:123", after := #[], guard := none }) (v := ?_) rfl (by kernel_rfl) (by kernel_rfl) (by kernel_rfl) (fun _ _ _ h => h) (Or.inl ⟨by rfl, ?_⟩) (by assumption) ?_
    rotate_left
    · intro w hSw; (try dsimp only at hSw); go_simp
      try with_reducible rfl
    try simp only [Act.put, List.setIfInBounds_toArray, List.set_cons_zero, List.set_cons_succ]
    refine wpAnyH_take (i := 1) (oi := { dst := some 33, op := Op.move (Operand.tmp 0), type := 27, pos := "times.go:123", after := #[], guard := none }) (v := ?_) rfl (by kernel_rfl) (by kernel_rfl) (by kernel_rfl) (fun _ _ _ h => h) (Or.inl ⟨by rfl, ?_⟩) (by assumption) ?_
    rotate_left
    · intro w hSw; (try dsimp only at hSw); go_simp
      try with_reducible rfl
    try simp only [Act.put, List.setIfInBounds_toArray, List.set_cons_zero, List.set_cons_succ]
    refine wpAnyH_take (i := 2) (oi := { dst := some 34, op := Op.nilCheck (Operand.tmp 33), type := 0, pos := "times.go:123", after := #[{ on := 1, ground := Ground.data }], guard := none }) (v := ?_) rfl (by kernel_rfl) (by kernel_rfl) (by kernel_rfl) (fun _ _ _ h => h) (Or.inl ⟨by rfl, ?_⟩) (by assumption) ?_
    rotate_left
    · intro w hSw; (try dsimp only at hSw); go_simp
      try with_reducible rfl
    try simp only [Act.put, List.setIfInBounds_toArray, List.set_cons_zero, List.set_cons_succ]
    refine wpAnyH_take (i := 3) (oi := { dst := some 35, op := Op.fieldAddr 70 (Operand.tmp 34) 2, type := 0, pos := "times.go:123", after := #[{ on := 2, ground := Ground.data }], guard := none }) (v := ?_) rfl (by kernel_rfl) (by kernel_rfl) (by kernel_rfl) (fun _ _ _ h => h) (Or.inl ⟨by rfl, ?_⟩) (by assumption) ?_
    rotate_left
    · intro w hSw; (try dsimp only at hSw); go_simp
      try with_reducible rfl
    try simp only [Act.put, List.setIfInBounds_toArray, List.set_cons_zero, List.set_cons_succ]
    refine wpAnyH_take (i := 5) (oi := { dst := some 37, op := Op.move (Operand.tmp 1), type := 27, pos := "times.go:123", after := #[], guard := none }) (v := ?_) rfl (by kernel_rfl) (by kernel_rfl) (by kernel_rfl) (fun _ _ _ h => h) (Or.inl ⟨by rfl, ?_⟩) (by assumption) ?_
    rotate_left
    · intro w hSw; (try dsimp only at hSw); go_simp
      try with_reducible rfl
    try simp only [Act.put, List.setIfInBounds_toArray, List.set_cons_zero, List.set_cons_succ]
    refine wpAnyH_take (i := 6) (oi := { dst := some 38, op := Op.nilCheck (Operand.tmp 37), type := 0, pos := "times.go:123", after := #[{ on := 5, ground := Ground.data }], guard := none }) (v := ?_) rfl (by kernel_rfl) (by kernel_rfl) (by kernel_rfl) (fun _ _ _ h => h) (Or.inl ⟨by rfl, ?_⟩) (by assumption) ?_
    rotate_left
    · intro w hSw; (try dsimp only at hSw); go_simp
      try with_reducible rfl
    try simp only [Act.put, List.setIfInBounds_toArray, List.set_cons_zero, List.set_cons_succ]
    refine wpAnyH_take (i := 7) (oi := { dst := some 39, op := Op.fieldAddr 70 (Operand.tmp 38) 2, type := 0, pos := "times.go:123", after := #[{ on := 6, ground := Ground.data }], guard := none }) (v := ?_) rfl (by kernel_rfl) (by kernel_rfl) (by kernel_rfl) (fun _ _ _ h => h) (Or.inl ⟨by rfl, ?_⟩) (by assumption) ?_
    rotate_left
    · intro w hSw; (try dsimp only at hSw); go_simp
      try with_reducible rfl
    try simp only [Act.put, List.setIfInBounds_toArray, List.set_cons_zero, List.set_cons_succ]
    refine wpAnyH_take (i := 8) (oi := { dst := some 40, op := Op.load 33 (Operand.tmp 39), type := 33, pos := "times.go:123", after := #[{ on := 7, ground := Ground.data }], guard := none }) (v := ?_) rfl (by kernel_rfl) (by kernel_rfl) (by kernel_rfl) (fun _ _ _ h => h) (Or.inl ⟨by rfl, ?_⟩) (by assumption) ?_
    rotate_left
    · intro w hSw; (try dsimp only at hSw); go_simp
      try with_reducible rfl
    try simp only [Act.put, List.setIfInBounds_toArray, List.set_cons_zero, List.set_cons_succ]
    refine wpAnyH_take (i := 9) (oi := { dst := some 41, op := Op.move (Operand.tmp 6), type := 3, pos := "times.go:123", after := #[], guard := none }) (v := ?_) rfl (by kernel_rfl) (by kernel_rfl) (by kernel_rfl) (fun _ _ _ h => h) (Or.inl ⟨by rfl, ?_⟩) (by assumption) ?_
    rotate_left
    · intro w hSw; (try dsimp only at hSw); go_simp
      try with_reducible rfl
    try simp only [Act.put, List.setIfInBounds_toArray, List.set_cons_zero, List.set_cons_succ]
    refine wpAnyH_take (i := 10) (oi := { dst := some 42, op := Op.slice 33 (Operand.tmp 40) (some (Operand.tmp 41)) none none, type := 33, pos := "times.go:123", after := #[{ on := 8, ground := Ground.data }, { on := 9, ground := Ground.data }], guard := none }) (v := ?_) rfl (by kernel_rfl) (by kernel_rfl) (by kernel_rfl) (fun _ _ _ h => h) (Or.inl ⟨by rfl, ?_⟩) (by assumption) ?_
    rotate_left
    · intro w hSw; (try dsimp only at hSw); go_simp
      try with_reducible rfl
    try simp only [Act.put, List.setIfInBounds_toArray, List.set_cons_zero, List.set_cons_succ]
    refine wpAnyH_take (i := 12) (oi := { dst := some 44, op := Op.move (Operand.tmp 1), type := 27, pos := "times.go:123", after := #[], guard := none }) (v := ?_) rfl (by kernel_rfl) (by kernel_rfl) (by kernel_rfl) (fun _ _ _ h => h) (Or.inl ⟨by rfl, ?_⟩) (by assumption) ?_
    rotate_left
    · intro w hSw; (try dsimp only at hSw); go_simp
      try with_reducible rfl
    try simp only [Act.put, List.setIfInBounds_toArray, List.set_cons_zero, List.set_cons_succ]
    refine wpAnyH_take (i := 13) (oi := { dst := some 45, op := Op.nilCheck (Operand.tmp 44), type := 0, pos := "times.go:123", after := #[{ on := 12, ground := Ground.data }], guard := none }) (v := ?_) rfl (by kernel_rfl) (by kernel_rfl) (by kernel_rfl) (fun _ _ _ h => h) (Or.inl ⟨by rfl, ?_⟩) (by assumption) ?_
    rotate_left
    · intro w hSw; (try dsimp only at hSw); go_simp
      try with_reducible rfl
    try simp only [Act.put, List.setIfInBounds_toArray, List.set_cons_zero, List.set_cons_succ]
    refine wpAnyH_take (i := 14) (oi := { dst := some 46, op := Op.fieldAddr 70 (Operand.tmp 45) 1, type := 0, pos := "times.go:123", after := #[{ on := 13, ground := Ground.data }], guard := none }) (v := ?_) rfl (by kernel_rfl) (by kernel_rfl) (by kernel_rfl) (fun _ _ _ h => h) (Or.inl ⟨by rfl, ?_⟩) (by assumption) ?_
    rotate_left
    · intro w hSw; (try dsimp only at hSw); go_simp
      try with_reducible rfl
    try simp only [Act.put, List.setIfInBounds_toArray, List.set_cons_zero, List.set_cons_succ]
    refine wpAnyH_take (i := 15) (oi := { dst := some 47, op := Op.load 2 (Operand.tmp 46), type := 2, pos := "times.go:123", after := #[{ on := 14, ground := Ground.data }], guard := none }) (v := ?_) rfl (by kernel_rfl) (by kernel_rfl) (by kernel_rfl) (fun _ _ _ h => h) (Or.inl ⟨by rfl, ?_⟩) (by assumption) ?_
    rotate_left
    · intro w hSw; (try dsimp only at hSw); go_simp
      try with_reducible rfl
    try simp only [Act.put, List.setIfInBounds_toArray, List.set_cons_zero, List.set_cons_succ]
    refine wpAnyH_ready (rs := [4]) (by kernel_rfl) (by simp) ?_
    refine AllReadyH.cons (o := { dst := some 36, op := Op.load 33 (Operand.tmp 35), type := 33, pos := "times.go:123", after := #[{ on := 3, ground := Ground.data }], guard := none }) rfl (fun K hK => ?_) (AllReadyH.nil)
    go_simp
    refine hK.out _ _ (hSS _ hgd) (fun hHeld => ?_)
    clear hK K
    try simp only [Act.put, List.setIfInBounds_toArray, List.set_cons_zero, List.set_cons_succ]
    refine wpAnyH_ready (rs := [11]) (by kernel_rfl) (by simp) ?_
    refine AllReadyH.cons (o := { dst := some 43, op := Op.call { callee := Callee.builtin Builtin.append, args := #[Operand.tmp 36, Operand.tmp 42], argTypes := #[33, 33] }, type := 33, pos := "times.go:123", after := #[{ on := 4, ground := Ground.data }, { on := 10, ground := Ground.data }], guard := none }) rfl (fun K hK => ?_) (AllReadyH.nil)
    refine step_append_sds (by rfl) (by rfl) (.tmp 36) (.tmp 42) (by rfl) 0 (by rfl) hXd1.sw (by rfl) (hSs hXd2.sw) (fun _ => by first | rfl | omega) (by omega) (Nat.zero_le _) ?_
    intro po pc w5 hs5 hg5 hat5 hold5
    simp only [Nat.add_zero, List.append_nil] at hs5
    have hc5 : Chg wd w5 (fun q => blk r1 = some q) := ⟨hg5.os, hg5.tape, hg5.output, hg5.size, fun q hq hn => hg5.block q hq (fun e => hn e.symm)⟩
    have hS5 := hXd2.chg hc5 hrb (fun q hq e => hfar q e hq)
    have hI5 := hXd1.ix.chg hc5 hXd1.rb
    have hgw := grow_ok l1.length hI5 po (l1.length) pc en2 (by omega) he2
    refine hK.out _ _ ⟨hS5.ix.c2, hS5.ix.c1⟩ (fun hHeld => ?_)
    clear hK K
    try simp only [Act.put, List.setIfInBounds_toArray, List.set_cons_zero, List.set_cons_succ]
    refine wpAnyH_ready (rs := [16]) (by kernel_rfl) (by simp) ?_
    refine AllReadyH.cons (o := { dst := some 48, op := Op.call { callee := Callee.value (Operand.func 56), args := #[Operand.tmp 32, Operand.tmp 43, Operand.tmp 47], argTypes := #[27, 33, 2] }, type := 28, pos := "times.go:123", after := #[{ on := 0, ground := Ground.data }, { on := 11, ground := Ground.data }, { on := 15, ground := Ground.data }, { on := 11, ground := Ground.chain }], guard := none }) rfl (fun K hK => ?_) (AllReadyH.nil)
    go_simp
    go_at_call 56
    refine hgw.mono ?_
    rintro e w6 ⟨rfl, hI6, hc6⟩
    have hS6 := hS5.chg hc6 (by omega) (fun q hq e => by subst e; exact hb2r hq)
    try go_simp
    refine hK.out _ _ ⟨hS6.ix.c2, hS6.ix.c1⟩ (fun hHeld => ?_)
    clear hK K
    try simp only [Act.put, List.setIfInBounds_toArray, List.set_cons_zero, List.set_cons_succ]
    refine wpAnyH_take (i := 17) (oi := { dst := some 4, op := Op.assign (Operand.tmp 48), type := 28, pos := "times.go:123", after := #[{ on := 16, ground := Ground.data }, { on := 16, ground := Ground.chain }, { on := 0, ground := Ground.phase }, { on := 1, ground := Ground.phase }, { on := 2, ground := Ground.phase }, { on := 3, ground := Ground.phase }, { on := 4, ground := Ground.phase }, { on := 5, ground := Ground.phase }, { on := 6, ground := Ground.phase }, { on := 7, ground := Ground.phase }, { on := 8, ground := Ground.phase }, { on := 9, ground := Ground.phase }, { on := 10, ground := Ground.phase }, { on := 11, ground := Ground.phase }, { on := 12, ground := Ground.phase }, { on := 13, ground := Ground.phase }, { on := 14, ground := Ground.phase }, { on := 15, ground := Ground.phase }, { on := 16, ground := Ground.phase }], guard := none }) (v := ?_) rfl (by kernel_rfl) (by kernel_rfl) (by kernel_rfl) (fun _ _ _ h => h) (Or.inl ⟨by rfl, ?_⟩) (by assumption) ?_
    rotate_left
    · intro w hSw; (try dsimp only at hSw); go_simp
      try with_reducible rfl
    try simp only [Act.put, List.setIfInBounds_toArray, List.set_cons_zero, List.set_cons_succ]
    refine wpAnyH_done (by kernel_rfl) ?_ _
    have hpb : blk po ≠ some b1 := hs5.not64 hI5 (by decide)
    have hs6 := hs5.chg hc6 (fun q hq e => by subst e; exact hpb hq)
    have hL : (l1).length = l1.length := by simp
    have hX6 : Xd w6 b1 po pc bs1 en2 (l1) := ⟨by rw [hL]; exact hI6, by rw [hL]; exact hs6, by rw [hL]; omega⟩
    have hN6 : Near w r1 c1 po pc := by
      rcases hat5 with e1 | e1
      · exact .inl e1
      · right
        intro q hq
        rw [e1] at hq
        cases hq
        exact Nat.le_trans hG4.size hgd.size
    have hC6 : Chg w w6 (fun q => q = b1 ∨ blk r1 = some q) := ((Chg.of_grown (grown_trans hG4 hgd (by simp)) _).trans (hc5.mono (fun q _ e => Or.inr e))).trans (hc6.mono (fun q _ e => Or.inl e))
    clear hSS hHeld hgw hS5 hS6 hI5 hI6 hc5 hc6 hs5 hs6 hg5 hold5 hXd1 hXd2
    go_wp2
    go_ret
    exact ⟨rfl, po, pc, by rw [hfiH.out, List.append_nil]; exact hX6, hN6, hC6⟩
  · obtain ⟨g, rfl⟩ : ∃ g, r2 = some ⟨g, 0, none⟩ := by
      rcases hX2.sw.form with ⟨_, h0, h9⟩ | h0
      · omega
      · exact h0
    have hck' : ¬ c2 = k := fun e => hck e.symm
    have hSs : ∀ {V : World}, Sw V 0 (some ⟨g, 0, none⟩) l2.length c2 l2 → Ss V (some ⟨g, k * 2, none⟩) (l2.length - k) (l2.drop k) := fun hs => hs.shows.drop k hkl (k * 2) (.inr rfl)
    go_wp2_with fail
    have hSS : ∀ V, w4.grownBy V none → (fun w' : World => w'.cell? ⟨b2, 2, none⟩ = some (.slice (some ⟨g, 0, none⟩) l2.length c2) ∧ w'.cell? ⟨b2, 1, none⟩ = some (.int .i64 en2)) V := fun V hV => ⟨hV.cell y2 (by simp), hV.cell y1 (by simp)⟩
    have hgd := grown_drew w4 none
    have hXd1 := hX1.grown hgd
    have hXd2 := hX2.grown hgd
    refine wp_region_held_drew (S := fun w' : World => w'.cell? ⟨b2, 2, none⟩ = some (.slice (some ⟨g, 0, none⟩) l2.length c2) ∧ w'.cell? ⟨b2, 1, none⟩ = some (.int .i64 en2)) (by kernel_rfl) (hSS _ hgd) (fun hHeld => ?_)
    generalize w4.drew = wd at *
    have x2 := hXd1.ix.c2
    refine wpAnyH_take (i := 0) (oi := { dst := some 32, op := Op.move (Operand.tmp 0), type := 27, pos := "times.go:123", after := #[], guard := none }) (v := ?_) rfl (by kernel_rfl) (by kernel_rfl) (by kernel_rfl) (fun _ _ _ h => h) (Or.inl ⟨by rfl, ?_⟩) (by assumption) ?_
    rotate_left
    · intro w hSw; (try dsimp only at hSw); go_simp
      try with_reducible rfl
    try simp only [Act.put, List.setIfInBounds_toArray, List.set_cons_zero, List.set_cons_succ]
    refine wpAnyH_take (i := 1) (oi := { dst := some 33, op := Op.move (Operand.tmp 0), type := 27, pos := "times.go:123", after := #[], guard := none }) (v := ?_) rfl (by kernel_rfl) (by kernel_rfl) (by kernel_rfl) (fun _ _ _ h => h) (Or.inl ⟨by rfl, ?_⟩) (by assumption) ?_
    rotate_left
    · intro w hSw; (try dsimp only at hSw); go_simp
      try with_reducible rfl
    try simp only [Act.put, List.setIfInBounds_toArray, List.set_cons_zero, List.set_cons_succ]
    refine wpAnyH_take (i := 2) (oi := { dst := some 34, op := Op.nilCheck (Operand.tmp 33), type := 0, pos := "times.go:123", after := #[{ on := 1, ground := Ground.data }], guard := none }) (v := ?_) rfl (by kernel_rfl) (by kernel_rfl) (by kernel_rfl) (fun _ _ _ h => h) (Or.inl ⟨by rfl, ?_⟩) (by assumption) ?_
    rotate_left
    · intro w hSw; (try dsimp only at hSw); go_simp
      try with_reducible rfl
    try simp only [Act.put, List.setIfInBounds_toArray, List.set_cons_zero, List.set_cons_succ]
    refine wpAnyH_take (i := 3) (oi := { dst := some 35, op := Op.fieldAddr 70 (Operand.tmp 34) 2, type := 0, pos := "times.go:123", after := #[{ on := 2, ground := Ground.data }], guard := none }) (v := ?_) rfl (by kernel_rfl) (by kernel_rfl) (by kernel_rfl) (fun _ _ _ h => h) (Or.inl ⟨by rfl, ?_⟩) (by assumption) ?_
    rotate_left
    · intro w hSw; (try dsimp only at hSw); go_simp
      try with_reducible rfl
    try simp only [Act.put, List.setIfInBounds_toArray, List.set_cons_zero, List.set_cons_succ]
    refine wpAnyH_take (i := 5) (oi := { dst := some 37, op := Op.move (Operand.tmp 1), type := 27, pos := "times.go:123", after := #[], guard := none }) (v := ?_) rfl (by kernel_rfl) (by kernel_rfl) (by kernel_rfl) (fun _ _ _ h => h) (Or.inl ⟨by rfl, ?_⟩) (by assumption) ?_
    rotate_left
    · intro w hSw; (try dsimp only at hSw); go_simp
      try with_reducible rfl
    try simp only [Act.put, List.setIfInBounds_toArray, List.set_cons_zero, List.set_cons_succ]
    refine wpAnyH_take (i := 6) (oi := { dst := some 38, op := Op.nilCheck (Operand.tmp 37), type := 0, pos := "times.go:123", after := #[{ on := 5, ground := Ground.data }], guard := none }) (v := ?_) rfl (by kernel_rfl) (by kernel_rfl) (by kernel_rfl) (fun _ _ _ h => h) (Or.inl ⟨by rfl, ?_⟩) (by assumption) ?_
    rotate_left
    · intro w hSw; (try dsimp only at hSw); go_simp
      try with_reducible rfl
    try simp only [Act.put, List.setIfInBounds_toArray, List.set_cons_zero, List.set_cons_succ]
    refine wpAnyH_take (i := 7) (oi := { dst := some 39, op := Op.fieldAddr 70 (Operand.tmp 38) 2, type := 0, pos := "times.go:123", after := #[{ on := 6, ground := Ground.data }], guard := none }) (v := ?_) rfl (by kernel_rfl) (by kernel_rfl) (by kernel_rfl) (fun _ _ _ h => h) (Or.inl ⟨by rfl, ?_⟩) (by assumption) ?_
    rotate_left
    · intro w hSw; (try dsimp only at hSw); go_simp
      try with_reducible rfl
    try simp only [Act.put, List.setIfInBounds_toArray, List.set_cons_zero, List.set_cons_succ]
    refine wpAnyH_take (i := 8) (oi := { dst := some 40, op := Op.load 33 (Operand.tmp 39), type := 33, pos := "times.go:123", after := #[{ on := 7, ground := Ground.data }], guard := none }) (v := ?_) rfl (by kernel_rfl) (by kernel_rfl) (by kernel_rfl) (fun _ _ _ h => h) (Or.inl ⟨by rfl, ?_⟩) (by assumption) ?_
    rotate_left
    · intro w hSw; (try dsimp only at hSw); go_simp
      try with_reducible rfl
    try simp only [Act.put, List.setIfInBounds_toArray, List.set_cons_zero, List.set_cons_succ]
    refine wpAnyH_take (i := 9) (oi := { dst := some 41, op := Op.move (Operand.tmp 6), type := 3, pos := "times.go:123", after := #[], guard := none }) (v := ?_) rfl (by kernel_rfl) (by kernel_rfl) (by kernel_rfl) (fun _ _ _ h => h) (Or.inl ⟨by rfl, ?_⟩) (by assumption) ?_
    rotate_left
    · intro w hSw; (try dsimp only at hSw); go_simp
      try with_reducible rfl
    try simp only [Act.put, List.setIfInBounds_toArray, List.set_cons_zero, List.set_cons_succ]
    refine wpAnyH_take (i := 10) (oi := { dst := some 42, op := Op.slice 33 (Operand.tmp 40) (some (Operand.tmp 41)) none none, type := 33, pos := "times.go:123", after := #[{ on := 8, ground := Ground.data }, { on := 9, ground := Ground.data }], guard := none }) (v := ?_) rfl (by kernel_rfl) (by kernel_rfl) (by kernel_rfl) (fun _ _ _ h => h) (Or.inl ⟨by rfl, ?_⟩) (by assumption) ?_
    rotate_left
    · intro w hSw; (try dsimp only at hSw); go_simp
      try with_reducible rfl
    try simp only [Act.put, List.setIfInBounds_toArray, List.set_cons_zero, List.set_cons_succ]
    refine wpAnyH_take (i := 12) (oi := { dst := some 44, op := Op.move (Operand.tmp 1), type := 27, pos := "times.go:123", after := #[], guard := none }) (v := ?_) rfl (by kernel_rfl) (by kernel_rfl) (by kernel_rfl) (fun _ _ _ h => h) (Or.inl ⟨by rfl, ?_⟩) (by assumption) ?_
    rotate_left
    · intro w hSw; (try dsimp only at hSw); go_simp
      try with_reducible rfl
    try simp only [Act.put, List.setIfInBounds_toArray, List.set_cons_zero, List.set_cons_succ]
    refine wpAnyH_take (i := 13) (oi := { dst := some 45, op := Op.nilCheck (Operand.tmp 44), type := 0, pos := "times.go:123", after := #[{ on := 12, ground := Ground.data }], guard := none }) (v := ?_) rfl (by kernel_rfl) (by kernel_rfl) (by kernel_rfl) (fun _ _ _ h => h) (Or.inl ⟨by rfl, ?_⟩) (by assumption) ?_
    rotate_left
    · intro w hSw; (try dsimp only at hSw); go_simp
      try with_reducible rfl
    try simp only [Act.put, List.setIfInBounds_toArray, List.set_cons_zero, List.set_cons_succ]
    refine wpAnyH_take (i := 14) (oi := { dst := some 46, op := Op.fieldAddr 70 (Operand.tmp 45) 1, type := 0, pos := "times.go:123", after := #[{ on := 13, ground := Ground.data }], guard := none }) (v := ?_) rfl (by kernel_rfl) (by kernel_rfl) (by kernel_rfl) (fun _ _ _ h => h) (Or.inl ⟨by rfl, ?_⟩) (by assumption) ?_
    rotate_left
    · intro w hSw; (try dsimp only at hSw); go_simp
      try with_reducible rfl
    try simp only [Act.put, List.setIfInBounds_toArray, List.set_cons_zero, List.set_cons_succ]
    refine wpAnyH_take (i := 15) (oi := { dst := some 47, op := Op.load 2 (Operand.tmp 46), type := 2, pos := "times.go:123", after := #[{ on := 14, ground := Ground.data }], guard := none }) (v := ?_) rfl (by kernel_rfl) (by kernel_rfl) (by kernel_rfl) (fun _ _ _ h => h) (Or.inl ⟨by rfl, ?_⟩) (by assumption) ?_
    rotate_left
    · intro w hSw; (try dsimp only at hSw); go_simp
      try with_reducible rfl
    try simp only [Act.put, List.setIfInBounds_toArray, List.set_cons_zero, List.set_cons_succ]
    refine wpAnyH_ready (rs := [4]) (by kernel_rfl) (by simp) ?_
    refine AllReadyH.cons (o := { dst := some 36, op := Op.load 33 (Operand.tmp 35), type := 33, pos := "times.go:123", after := #[{ on := 3, ground := Ground.data }], guard := none }) rfl (fun K hK => ?_) (AllReadyH.nil)
    go_simp
    refine hK.out _ _ (hSS _ hgd) (fun hHeld => ?_)
    clear hK K
    try simp only [Act.put, List.setIfInBounds_toArray, List.set_cons_zero, List.set_cons_succ]
    refine wpAnyH_ready (rs := [11]) (by kernel_rfl) (by simp) ?_
    refine AllReadyH.cons (o := { dst := some 43, op := Op.call { callee := Callee.builtin Builtin.append, args := #[Operand.tmp 36, Operand.tmp 42], argTypes := #[33, 33] }, type := 33, pos := "times.go:123", after := #[{ on := 4, ground := Ground.data }, { on := 10, ground := Ground.data }], guard := none }) rfl (fun K hK => ?_) (AllReadyH.nil)
    refine step_append_sds (by rfl) (by rfl) (.tmp 36) (.tmp 42) (by rfl) 0 (by rfl) hXd1.sw (by rfl) (hSs hXd2.sw) (fun e => by cases e) (by omega) (Nat.zero_le _) ?_
    intro po pc w5 hs5 hg5 hat5 hold5
    have hc5 : Chg wd w5 (fun q => blk r1 = some q) := ⟨hg5.os, hg5.tape, hg5.output, hg5.size, fun q hq hn => hg5.block q hq (fun e => hn e.symm)⟩
    have hS5 := hXd2.chg hc5 hrb (fun q hq e => hfar q e hq)
    have hI5 := hXd1.ix.chg hc5 hXd1.rb
    have hgw := grow_ok l1.length hI5 po (l1.length + (l2.length - k)) pc en2 (by omega) he2
    refine hK.out _ _ ⟨hS5.ix.c2, hS5.ix.c1⟩ (fun hHeld => ?_)
    clear hK K
    try simp only [Act.put, List.setIfInBounds_toArray, List.set_cons_zero, List.set_cons_succ]
    refine wpAnyH_ready (rs := [16]) (by kernel_rfl) (by simp) ?_
    refine AllReadyH.cons (o := { dst := some 48, op := Op.call { callee := Callee.value (Operand.func 56), args := #[Operand.tmp 32, Operand.tmp 43, Operand.tmp 47], argTypes := #[27, 33, 2] }, type := 28, pos := "times.go:123", after := #[{ on := 0, ground := Ground.data }, { on := 11, ground := Ground.data }, { on := 15, ground := Ground.data }, { on := 11, ground := Ground.chain }], guard := none }) rfl (fun K hK => ?_) (AllReadyH.nil)
    go_simp
    go_at_call 56
    refine hgw.mono ?_
    rintro e w6 ⟨rfl, hI6, hc6⟩
    have hS6 := hS5.chg hc6 (by omega) (fun q hq e => by subst e; exact hb2r hq)
    try go_simp
    refine hK.out _ _ ⟨hS6.ix.c2, hS6.ix.c1⟩ (fun hHeld => ?_)
    clear hK K
    try simp only [Act.put, List.setIfInBounds_toArray, List.set_cons_zero, List.set_cons_succ]
    refine wpAnyH_take (i := 17) (oi := { dst := some 4, op := Op.assign (Operand.tmp 48), type := 28, pos := "times.go:123", after := #[{ on := 16, ground := Ground.data }, { on := 16, ground := Ground.chain }, { on := 0, ground := Ground.phase }, { on := 1, ground := Ground.phase }, { on := 2, ground := Ground.phase }, { on := 3, ground := Ground.phase }, { on := 4, ground := Ground.phase }, { on := 5, ground := Ground.phase }, { on := 6, ground := Ground.phase }, { on := 7, ground := Ground.phase }, { on := 8, ground := Ground.phase }, { on := 9, ground := Ground.phase }, { on := 10, ground := Ground.phase }, { on := 11, ground := Ground.phase }, { on := 12, ground := Ground.phase }, { on := 13, ground := Ground.phase }, { on := 14, ground := Ground.phase }, { on := 15, ground := Ground.phase }, { on := 16, ground := Ground.phase }], guard := none }) (v := ?_) rfl (by kernel_rfl) (by kernel_rfl) (by kernel_rfl) (fun _ _ _ h => h) (Or.inl ⟨by rfl, ?_⟩) (by assumption) ?_
    rotate_left
    · intro w hSw; (try dsimp only at hSw); go_simp
      try with_reducible rfl
    try simp only [Act.put, List.setIfInBounds_toArray, List.set_cons_zero, List.set_cons_succ]
    refine wpAnyH_done (by kernel_rfl) ?_ _
    have hpb : blk po ≠ some b1 := hs5.not64 hI5 (by decide)
    have hs6 := hs5.chg hc6 (fun q hq e => by subst e; exact hpb hq)
    have hL : (l1 ++ l2.drop k).length = l1.length + (l2.length - k) := by simp
    have hX6 : Xd w6 b1 po pc bs1 en2 (l1 ++ l2.drop k) := ⟨by rw [hL]; exact hI6, by rw [hL]; exact hs6, by rw [hL]; omega⟩
    have hN6 : Near w r1 c1 po pc := by
      rcases hat5 with e1 | e1
      · exact .inl e1
      · right
        intro q hq
        rw [e1] at hq
        cases hq
        exact Nat.le_trans hG4.size hgd.size
    have hC6 : Chg w w6 (fun q => q = b1 ∨ blk r1 = some q) := ((Chg.of_grown (grown_trans hG4 hgd (by simp)) _).trans (hc5.mono (fun q _ e => Or.inr e))).trans (hc6.mono (fun q _ e => Or.inl e))
    clear hSS hHeld hgw hS5 hS6 hI5 hI6 hc5 hc6 hs5 hs6 hg5 hold5 hXd1 hXd2
    go_wp2
    go_ret
    exact ⟨rfl, po, pc, by rw [hfiH.out]; exact hX6, hN6, hC6⟩
end
end Go.Proofs.Ytmnfdiffneobpaa
