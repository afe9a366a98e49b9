/-
  StopsAll: 'is' (22): the program's disk holds just the files of the document's.
-/
import Derived.Test.YtgkeflgfnagnjaaYO
import Derived.Test.YtgkeflgfnagnjaaYF
import Derived.Test.YtgkeflgfnagnjaaYG
import Derived.OwnWalkIn
namespace Go.Proofs.Ytgkeflgfnagnjaa
open Go.RowKit Go.Shelf
set_option linter.unusedVariables false
set_option maxRecDepth 100000
attribute [local go_sem] Oper.semAt_some

def nthU : List Value → Nat → Value
  | [], _ => undef
  | x :: _, 0 => x
  | _ :: t, i + 1 => nthU t i
theorem eqIn102 (W : World) (s : ByteArray) (a b : Int) (c d : Bool) : (Op.equalIn 10000 102 (.agg #[.string s, .int .i64 a, .int .i64 b, .bool c, .bool d]) (.agg #[.string s, .int .i64 a, .int .i64 b, .bool c, .bool d])).run Try.prog W = .ok true W := by
  have u3 := Try.underlying3
  have u4 := Try.underlying4
  have u9 := Try.underlying9
  rw [show (10000 : Nat) = 9999 + 1 from rfl, Op.equalIn]
  simp only [Sem.run_bind, run_underlying Try.underlying102, Result.andThen_ok]
  go_simp
theorem ne102 (W : World) (f : Rf) : (binOp .neq 102 (.agg #[.string f.s, .int .i64 f.bs.length, .int .i64 f.la, .bool f.th, .bool f.nl]) (.agg #[.string f.s, .int .i64 f.bs.length, .int .i64 f.la, .bool f.th, .bool f.nl])).run Try.prog W = .ok (.bool false) W := by
  simp only [binOp]
  simp [show (Op.equal 102 _ _).run Try.prog W = _ from eqIn102 W f.s f.bs.length f.la f.th f.nl]
theorem tell_r2 (w : World) (f : Rf) : Calls Try.prog 56 #[.agg #[.string f.s, .string ⟨f.bs.toArray⟩, .int .i64 (f.la : Int), .bool f.th, .bool f.nl]] w fun e w' => e = .returned (.agg #[.string f.s, .int .i64 f.bs.length, .int .i64 f.la, .bool f.th, .bool f.nl]) ∧ w.grownBy w' none := tell_r w f
/-- What stands in the loop. -/
def Iz (w6 : World) (b rb n2 n3 n4 nk : Nat) (pre : List Td) (W : World) : Prop :=
  Boxed W n2 26 (.pointer (some ⟨b, 0, none⟩)) ∧ Boxed W n3 27 (.pointer (some ⟨rb, 0, none⟩)) ∧ Boxed W n4 4 (.bool false) ∧ Boxed W nk 3 (.int .i64 pre.length) ∧ Chg w6 W (fun q => q = nk)
theorem Iz.own {w6 : World} {b rb n2 n3 n4 nk : Nat} : OwnFrom w6.heap.size (Iz w6 b rb n2 n3 n4 nk) := by
  rintro s A V row ⟨h1, h2, h3, h4, h5⟩ hg hr
  exact ⟨box_own h1 hg (fun r e => (hr r e).2), box_own h2 hg (fun r e => (hr r e).2), box_own h3 hg (fun r e => (hr r e).2), box_own h4 hg (fun r e => (hr r e).2), h5.ext hg (fun q e => (hr q e).1)⟩
theorem read_size {L : List Rf} {i : Nat} {fs : List (Int × Int)} {st : Int} (hw : Lw L fs st i) (hi : i ≤ 300) {f : Rf} {s : ByteArray} (hf : lk L s = some f) (ht : f.th = true) : readL L s 0 f.bs.length = (f.bs, 0) := by
  have h1 := read_all hw hi hf ht
  have hfl := hw.fl f (lk_mem hf)
  unfold readL at h1 ⊢
  by_cases h0 : (findR L s).2 ≠ 0
  · rw [if_pos (by simpa using h0)] at h1
    simp only [Prod.mk.injEq] at h1
    exact absurd h1.2 h0
  · have h0 : (findR L s).2 = 0 := Classical.not_not.1 h0
    rw [if_neg (by simp [h0]), hf]
    have hc : readC f.bs.length 0 f.bs.length = false := by simp [readC]
    simp only [hc, Bool.false_eq_true, if_false]
    simp

set_option maxHeartbeats 16000000 in
theorem is_any {w : World} {T T' : Nat → Prop} {b i rb : Nat} {L : List Rf} {fs fs' : List (Int × Int)} {st st' : Int} (h : Pv w T b L fs st i) (hi : i ≤ 300) (hr : Rv w T' rb L fs' st') (hta : ∀ f ∈ L, f.th = true) :
    Calls Try.prog 22 #[.pointer (some ⟨b, 0, none⟩), .pointer (some ⟨rb, 0, none⟩)] w fun e w' => e = .returned (.bool true) ∧ w.grownBy w' none := by
  have hlw := h.lw
  have HL : HidO (Lw L fs st i) := hlw
  have hlen := hlw.len
  have HP : HidO (Pv w T b L fs st i) := h
  have HRv : HidO (Rv w T' rb L fs' st') := hr
  have HT : HidO (∀ f ∈ L, f.th = true) := hta
  have ga := aGrown w (.cells #[.pointer (some ⟨b, 0, none⟩)] 26)
  have b2 := Boxed.new w 26 (.pointer (some ⟨b, 0, none⟩))
  have hwa : (w.alloc (.cells #[.pointer (some ⟨b, 0, none⟩)] 26)).heap.size = w.heap.size + 1 := by simp
  have gb := aGrown (w.alloc (.cells #[.pointer (some ⟨b, 0, none⟩)] 26)) (.cells #[.pointer (some ⟨rb, 0, none⟩)] 27)
  have b3 := Boxed.new (w.alloc (.cells #[.pointer (some ⟨b, 0, none⟩)] 26)) 27 (.pointer (some ⟨rb, 0, none⟩))
  have hwb : ((w.alloc (.cells #[.pointer (some ⟨b, 0, none⟩)] 26)).alloc (.cells #[.pointer (some ⟨rb, 0, none⟩)] 27)).heap.size = w.heap.size + 1 + 1 := by simp
  have gc := aGrown ((w.alloc (.cells #[.pointer (some ⟨b, 0, none⟩)] 26)).alloc (.cells #[.pointer (some ⟨rb, 0, none⟩)] 27)) (.cells #[.bool false] 4)
  have b4 := Boxed.new ((w.alloc (.cells #[.pointer (some ⟨b, 0, none⟩)] 26)).alloc (.cells #[.pointer (some ⟨rb, 0, none⟩)] 27)) 4 (.bool false)
  have b2' := box_own (box_own b2 gb (fun r e => by cases e)) gc (fun r e => by cases e)
  have b3' := box_own b3 gc (fun r e => by cases e)
  have hG3 := grown_trans (grown_trans ga gb (by simp)) gc (by simp)
  rw [hwa] at b3'
  rw [hwb] at b4
  clear h hr hta hlw b2 b3 ga gb gc hwa hwb
  refine (callsIn_wide (n := 5)).1 ?_
  refine callsIn_of_wp_marks Try.func22 rfl trivial ?_
  simp only [Try.ntmps22, List.size_toArray, List.length_cons, List.length_nil, Nat.reduceAdd, Nat.reduceSub, Array.replicate_succ, Array.replicate_zero, List.push_toArray, List.append_toArray, List.nil_append, List.cons_append]
  gi_wp2_with fail
  obtain ⟨w3, hw3⟩ : ∃ w3, (((w.alloc (.cells #[.pointer (some ⟨b, 0, none⟩)] 26)).alloc (.cells #[.pointer (some ⟨rb, 0, none⟩)] 27)).alloc (.cells #[.bool false] 4)) = w3 := ⟨_, rfl⟩
  simp only [hw3] at b2' b3' b4 hG3 ⊢
  obtain ⟨n2, h2⟩ : ∃ n2, w.heap.size = n2 := ⟨_, rfl⟩
  rw [h2] at b2' b3' b4
  obtain ⟨n3, h3⟩ : ∃ n3, n2 + 1 = n3 := ⟨_, rfl⟩
  obtain ⟨n4, h4⟩ : ∃ n4, n3 + 1 = n4 := ⟨_, rfl⟩
  rw [h3] at b3'
  rw [h3, h4] at b4
  have HN : HidO (w.heap.size = n2 ∧ n2 + 1 = n3 ∧ n3 + 1 = n4) := ⟨h2, h3, h4⟩
  simp only [h2, h3, h4]
  clear hw3 h2 h3 h4
  have hn4 := b4.lt
  refine ⟨trivial, callsIn_wide.2 ((all_p (HP.out.grown hG3) hi).mono ?_)⟩
  rintro e w4 ⟨ao, cap, rfl, hbz, hTw, hg4⟩
  obtain ⟨z, hz⟩ : ∃ z, w3.heap.size = z := ⟨_, rfl⟩
  rw [hz] at hbz hTw hn4 ⊢
  have b2 := box_own b2' hg4 (fun r e => by cases e)
  have b3 := box_own b3' hg4 (fun r e => by cases e)
  have b4x := box_own b4 hg4 (fun r e => by cases e)
  have heq := run_eql_fnB w4 99 _ _ _ Try.underlying99 (.func 84) #[] #[.pointer (some ⟨z, 0, none⟩)]
  have hG4 := grown_trans hG3 hg4 (by simp)
  clear b2' b3' b4 hG3 hg4 hz
  gi_wp2_with fail
  have gk := aGrown w4 (.cells #[.int .i64 0] 3)
  have bk := Boxed.new w4 3 (.int .i64 0)
  obtain ⟨w6, hw6⟩ : ∃ w6, w4.alloc (.cells #[.int .i64 0] 3) = w6 := ⟨_, rfl⟩
  obtain ⟨nk, hnk⟩ : ∃ nk, w4.heap.size = nk := ⟨_, rfl⟩
  rw [hw6] at gk bk ⊢
  rw [hnk] at bk
  rw [hnk]
  have c2 := box_own b2 gk (fun r e => by cases e)
  have c3 := box_own b3 gk (fun r e => by cases e)
  have c4 := box_own b4x gk (fun r e => by cases e)
  have cz := box_own hbz gk (fun r e => by cases e)
  have hTw6 := hTw.kept gk (by cases ao <;> simp [blk])
  have hG6 := grown_trans hG4 gk (by simp)
  have hzk : z < nk := by rw [← hnk]; exact hbz.lt
  have hnk6 := bk.lt
  have hao : ∀ q, blk ao = some q → z ≤ q ∧ q < nk := fun q e => by rw [← hnk]; exact hTw.from_base q e
  have hwk : w.heap.size ≤ nk := by rw [← hnk]; exact hG4.size
  clear hw6 hnk b2 b3 b4x hbz hTw hG4 gk heq
  obtain ⟨files, hfe⟩ : ∃ files, L.map Rf.td = files := ⟨_, rfl⟩
  have HF : HidO (L.map Rf.td = files) := hfe
  rw [hfe] at hTw6
  have hKl : ∀ q, (q = z ∨ blk ao = some q) → q < w6.heap.size := fun q e => by
    rcases e with rfl | e
    · omega
    · have := (hao q e).2; omega
  have hKn : ∀ q, (q = z ∨ blk ao = some q) → ¬ q = nk := fun q e => by
    rcases e with rfl | e
    · omega
    · have := (hao q e).2; omega
  have hfl : files.length = L.length := by rw [← hfe]; simp
  clear hfe
  apply wpIn_rangeFunc_told (α := Td) (encs := fun t => #[t.val]) (Kp := Stay (fun q => q = z ∨ blk ao = some q)) (w0 := w6) rfl (by decide) (gf := 84) (lb := #[.pointer (some ⟨z, 0, none⟩)]) rfl trivial (enters_of Try.func84 (by kernel_rfl) rfl)
    (all1_stay 4 (by decide) w6 z z _ ao L.length cap files cz hTw6 (Or.inl rfl) (fun q e => Or.inr e) hKl (by omega)) (fun h1 h2 => h1.trans h2)
    (fun W q o1 o2 hq h1 h2 h3 => ⟨by simp, fun i hi => World.putObj_heap_other (by have := hKl i hi; omega)⟩) (Below.refl _ _) (fun t => rfl)
    (Iz w6 b rb n2 n3 n4 nk)
    (fun _ _ _ => False)
    Iz.own
    (fun cd s A V row hs hg hr => hs.elim)
    ⟨c2, c3, c4, bk, Chg.refl _ _⟩
    (fun pre t a' W => files[pre.length]? = some t ∧ ∃ zf, W.heap[zf]? = some (.cells #[.string t.s, .int .i64 t.sz, .int .i64 t.la, .bool t.th, .bool t.nl] 102) ∧ ∃ f : Nat → Value, a' = { tmps := #[f 0, f 1, .pointer (some ⟨n2, 0, none⟩), .pointer (some ⟨n3, 0, none⟩), .pointer (some ⟨n4, 0, none⟩), f 5, .pointer (some ⟨nk, 0, none⟩), .pointer (some ⟨zf, 0, none⟩), f 8, f 9, f 10, f 11, f 12, f 13, f 14, f 15, f 16, f 17, f 18, f 19, f 20, f 21, f 22, f 23, f 24, f 25, f 26, f 27, f 28, f 29, f 30, f 31, f 32, f 33, f 34, f 35, f 36, f 37, f 38, f 39, f 40, f 41, f 42, f 43, f 44, f 45, f 46, f 47, f 48, f 49, f 50, f 51, f 52, f 53, f 54, f 55, f 56, f 57, f 58, f 59, f 60, f 61, f 62, f 63], defers := [] })
  case hAx =>
    rintro pre t a' _ A V row ⟨t1, zf, t2, t3⟩ hg hr
    exact ⟨t1, zf, heap_kept hg t2 (fun e => not_cells_ty (hr zf e.symm).2 ⟨_, _, t2⟩), t3⟩
  case hassign =>
    intro pre t W K hI hT hK
    simp only [Td.val, toldV]
    have ga := alloc_grown W (.cells #[.string t.s, .int .i64 t.sz, .int .i64 t.la, .bool t.th, .bool t.nl] 102)
    have kf := World.alloc_heap_new W (.cells #[.string t.s, .int .i64 t.sz, .int .i64 t.la, .bool t.th, .bool t.nl] 102)
    have hI2 := Iz.own pre _ _ none hI ga (fun q e => by cases e)
    have hst : Stay (fun q => q = z ∨ blk ao = some q) W (W.alloc (.cells #[.string t.s, .int .i64 t.sz, .int .i64 t.la, .bool t.th, .bool t.nl] 102)) := Stay.grown ga (fun q hq => by obtain ⟨_, _, _, _, hc⟩ := hI; exact Nat.lt_of_lt_of_le (hKl q hq) hc.size)
    clear hI
    gi_wp2
    exact hK _ _ ((KeepsOthers.alloc W _).from _) hst hI2 ⟨hT, _, kf, (fun i => nthU [_, _, undef, undef, undef, _, undef, undef, _, _, _, _, _, _, _, _, _, _, _, _, _, _, _, _, _, _, _, _, _, _, _, _, _, _, _, _, _, _, _, _, _, _, _, _, _, _, _, _, _, _, _, _, _, _, _, _, _, _, _, _, _, _, _, _] i), rfl⟩
  case hbody =>
    rintro pre t a' W hq ⟨j1, j2, j3, j4, j5⟩ ⟨t1, zf, t2, F, rfl⟩
    obtain ⟨f, hf, rfl⟩ : ∃ f, L[pre.length]? = some f ∧ f.td = t := by
      rw [← HF.out, List.getElem?_map] at t1
      cases hl : L[pre.length]? with
      | none => rw [hl] at t1; cases t1
      | some f => rw [hl] at t1; cases t1; exact ⟨f, rfl, rfl⟩
    have hkl : pre.length < L.length := (List.getElem?_eq_some_iff.1 hf).1
    have hGW : w.grownBy W none := ((Chg.of_grown hG6 _).trans j5).grown (fun q hq e => by have h9 : q = nk := e; omega)
    have hv := HRv.out.grown hGW
    obtain ⟨g, ac, r0, -, y5, -, -, -⟩ := hv.file hf
    have y0 : W.cell? ⟨g, pre.length * 5, none⟩ = some (.string f.s) := y5 0 (by decide)
    have y1 : W.cell? ⟨g, pre.length * 5 + 1, none⟩ = some (.string ⟨f.bs.toArray⟩) := y5 1 (by decide)
    have y2 : W.cell? ⟨g, pre.length * 5 + 2, none⟩ = some (.int .i64 f.la) := y5 2 (by decide)
    have y3 : W.cell? ⟨g, pre.length * 5 + 3, none⟩ = some (.bool f.th) := y5 3 (by decide)
    have y4 : W.cell? ⟨g, pre.length * 5 + 4, none⟩ = some (.bool f.nl) := y5 4 (by decide)
    have x0 : W.cell? ⟨zf, 0, none⟩ = some (.string f.s) := cell_of (i := 0) t2 rfl
    have x1 : W.cell? ⟨zf, 1, none⟩ = some (.int .i64 f.bs.length) := cell_of (i := 1) t2 rfl
    have x2 : W.cell? ⟨zf, 2, none⟩ = some (.int .i64 f.la) := cell_of (i := 2) t2 rfl
    have x3 : W.cell? ⟨zf, 3, none⟩ = some (.bool f.th) := cell_of (i := 3) t2 rfl
    have x4 : W.cell? ⟨zf, 4, none⟩ = some (.bool f.nl) := cell_of (i := 4) t2 rfl
    have k2 := j1.cell
    have k3 := j2.cell
    have k6 := j4.cell
    have HJ : HidO (Boxed W n2 26 (.pointer (some ⟨b, 0, none⟩)) ∧ Boxed W n3 27 (.pointer (some ⟨rb, 0, none⟩)) ∧ Boxed W n4 4 (.bool false) ∧ Boxed W nk 3 (.int .i64 pre.length) ∧ Chg w6 W (fun q => q = nk)) := ⟨j1, j2, j3, j4, j5⟩
    have HGW : HidO (w.grownBy W none) := hGW
    have HF2 : HidO (L[pre.length]? = some f) := hf
    obtain ⟨k, hk⟩ : ∃ k, pre.length = k := ⟨_, rfl⟩
    have HK : HidO (pre.length = k) := hk
    rw [hk] at hkl y0 y1 y2 y3 y4 k6
    have e1 : (0 : Int) ≤ (k : Int) := by omega
    have e2 : (k : Int) < (L.length : Int) := by omega
    have e3 : decide ((L.length : Int) ≤ (k : Int)) = false := by simp; omega
    have e4 : decide (L.length ≤ k) = false := by simp; omega
    clear hv y5 hf t1 t2 j1 j2 j3 j4 j5 hGW hk
    gi_wp2_with fail
    refine wpIn_region_round (S := fun V => W.grownBy V none) (by kernel_rfl) (by kernel_rfl) (by rintro ⟨_, _, h⟩; exact h) (grown_drew W none) (fun hHeld => ?_)
    refine wpAnyH_take (i := 0) (oi := { dst := some 16, op := Op.load 3 (Operand.tmp 6), type := 3, pos := "law.go:193", after := #[], guard := none }) (v := ?_) rfl (by kernel_rfl) (by kernel_rfl) (by kernel_rfl) (fun _ _ _ h => h) (Or.inl ⟨by rfl, ?_⟩) (by assumption) ?_
    rotate_left
    · intro w hSw; (try dsimp only at hSw); have q := hSw.cell k6 (by simp); go_simp
      try with_reducible rfl
    try simp only [Act.put, List.setIfInBounds_toArray, List.set_cons_zero, List.set_cons_succ]
    refine wpAnyH_take (i := 1) (oi := { dst := some 17, op := Op.load 27 (Operand.tmp 3), type := 27, pos := "law.go:193", after := #[], guard := none }) (v := ?_) rfl (by kernel_rfl) (by kernel_rfl) (by kernel_rfl) (fun _ _ _ h => h) (Or.inl ⟨by rfl, ?_⟩) (by assumption) ?_
    rotate_left
    · intro w hSw; (try dsimp only at hSw); have q := hSw.cell k3 (by simp); go_simp
      try with_reducible rfl
    try simp only [Act.put, List.setIfInBounds_toArray, List.set_cons_zero, List.set_cons_succ]
    refine wpAnyH_take (i := 2) (oi := { dst := some 18, op := Op.nilCheck (Operand.tmp 17), type := 0, pos := "law.go:193", after := #[{ on := 1, ground := Ground.data }], guard := none }) (v := ?_) rfl (by kernel_rfl) (by kernel_rfl) (by kernel_rfl) (fun _ _ _ h => h) (Or.inl ⟨by rfl, ?_⟩) (by assumption) ?_
    rotate_left
    · intro w hSw; (try dsimp only at hSw); go_simp
      try with_reducible rfl
    try simp only [Act.put, List.setIfInBounds_toArray, List.set_cons_zero, List.set_cons_succ]
    refine wpAnyH_take (i := 3) (oi := { dst := some 19, op := Op.fieldAddr 74 (Operand.tmp 18) 0, type := 0, pos := "law.go:193", after := #[{ on := 2, ground := Ground.data }], guard := none }) (v := ?_) rfl (by kernel_rfl) (by kernel_rfl) (by kernel_rfl) (fun _ _ _ h => h) (Or.inl ⟨by rfl, ?_⟩) (by assumption) ?_
    rotate_left
    · intro w hSw; (try dsimp only at hSw); go_simp
      try with_reducible rfl
    try simp only [Act.put, List.setIfInBounds_toArray, List.set_cons_zero, List.set_cons_succ]
    refine wpAnyH_take (i := 4) (oi := { dst := some 20, op := Op.load 72 (Operand.tmp 19), type := 72, pos := "law.go:193", after := #[{ on := 3, ground := Ground.data }], guard := none }) (v := ?_) rfl (by kernel_rfl) (by kernel_rfl) (by kernel_rfl) (fun _ _ _ h => h) (Or.inl ⟨by rfl, ?_⟩) (by assumption) ?_
    rotate_left
    · intro w hSw; (try dsimp only at hSw); have q := hSw.cell r0 (by simp); go_simp
      try with_reducible rfl
    try simp only [Act.put, List.setIfInBounds_toArray, List.set_cons_zero, List.set_cons_succ]
    refine wpAnyH_take (i := 5) (oi := { dst := some 21, op := Op.call { callee := Callee.builtin Builtin.len, args := #[Operand.tmp 20], argTypes := #[72] }, type := 3, pos := "law.go:193", after := #[{ on := 4, ground := Ground.data }], guard := none }) (v := ?_) rfl (by kernel_rfl) (by kernel_rfl) (by kernel_rfl) (fun _ _ _ h => h) (Or.inl ⟨by rfl, ?_⟩) (by assumption) ?_
    rotate_left
    · intro w hSw; (try dsimp only at hSw); go_simp
      try with_reducible rfl
    try simp only [Act.put, List.setIfInBounds_toArray, List.set_cons_zero, List.set_cons_succ]
    refine wpAnyH_take (i := 6) (oi := { dst := some 22, op := Op.binOp BinOp.geq 3 (Operand.tmp 16) (Operand.tmp 21) 3, type := 4, pos := "law.go:193", after := #[{ on := 0, ground := Ground.data }, { on := 5, ground := Ground.data }], guard := none }) (v := ?_) rfl (by kernel_rfl) (by kernel_rfl) (by kernel_rfl) (fun _ _ _ h => h) (Or.inl ⟨by rfl, ?_⟩) (by assumption) ?_
    rotate_left
    · intro w hSw; (try dsimp only at hSw); go_simp
      try with_reducible rfl
    try simp only [Act.put, List.setIfInBounds_toArray, List.set_cons_zero, List.set_cons_succ]
    refine wpAnyH_take (i := 7) (oi := { dst := some 23, op := Op.move (Operand.tmp 22), type := 4, pos := "law.go:193", after := #[{ on := 6, ground := Ground.data }], guard := none }) (v := ?_) rfl (by kernel_rfl) (by kernel_rfl) (by kernel_rfl) (fun _ _ _ h => h) (Or.inl ⟨by rfl, ?_⟩) (by assumption) ?_
    rotate_left
    · intro w hSw; (try dsimp only at hSw); go_simp
      try with_reducible rfl
    try simp only [Act.put, List.setIfInBounds_toArray, List.set_cons_zero, List.set_cons_succ]
    refine wpAnyH_take (i := 8) (oi := { dst := some 24, op := Op.load 102 (Operand.tmp 7), type := 102, pos := "law.go:193", after := #[{ on := 7, ground := Ground.guard }], guard := some (7, false) }) (v := ?_) rfl (by kernel_rfl) (by kernel_rfl) (by kernel_rfl) (fun _ _ _ h => h) (Or.inl ⟨by simp [Region.wanted, yielded], ?_⟩) (by assumption) ?_
    rotate_left
    · intro w hSw; (try dsimp only at hSw); have q0 := hSw.cell x0 (by simp); have q1 := hSw.cell x1 (by simp); have q2 := hSw.cell x2 (by simp); have q3 := hSw.cell x3 (by simp); have q4 := hSw.cell x4 (by simp); go_simp
      try with_reducible rfl
    try simp only [Act.put, List.setIfInBounds_toArray, List.set_cons_zero, List.set_cons_succ]
    refine wpAnyH_take (i := 9) (oi := { dst := some 25, op := Op.load 27 (Operand.tmp 3), type := 27, pos := "law.go:193", after := #[{ on := 7, ground := Ground.guard }], guard := some (7, false) }) (v := ?_) rfl (by kernel_rfl) (by kernel_rfl) (by kernel_rfl) (fun _ _ _ h => h) (Or.inl ⟨by simp [Region.wanted, yielded], ?_⟩) (by assumption) ?_
    rotate_left
    · intro w hSw; (try dsimp only at hSw); have q := hSw.cell k3 (by simp); go_simp
      try with_reducible rfl
    try simp only [Act.put, List.setIfInBounds_toArray, List.set_cons_zero, List.set_cons_succ]
    refine wpAnyH_take (i := 13) (oi := { dst := some 29, op := Op.load 3 (Operand.tmp 6), type := 3, pos := "law.go:193", after := #[{ on := 7, ground := Ground.guard }], guard := some (7, false) }) (v := ?_) rfl (by kernel_rfl) (by kernel_rfl) (by kernel_rfl) (fun _ _ _ h => h) (Or.inl ⟨by simp [Region.wanted, yielded], ?_⟩) (by assumption) ?_
    rotate_left
    · intro w hSw; (try dsimp only at hSw); have q := hSw.cell k6 (by simp); go_simp
      try with_reducible rfl
    try simp only [Act.put, List.setIfInBounds_toArray, List.set_cons_zero, List.set_cons_succ]
    refine wpAnyH_take (i := 10) (oi := { dst := some 26, op := Op.nilCheck (Operand.tmp 25), type := 0, pos := "law.go:193", after := #[{ on := 9, ground := Ground.data }, { on := 7, ground := Ground.guard }], guard := some (7, false) }) (v := ?_) rfl (by kernel_rfl) (by kernel_rfl) (by kernel_rfl) (fun _ _ _ h => h) (Or.inl ⟨by simp [Region.wanted, yielded], ?_⟩) (by assumption) ?_
    rotate_left
    · intro w hSw; (try dsimp only at hSw); go_simp
      try with_reducible rfl
    try simp only [Act.put, List.setIfInBounds_toArray, List.set_cons_zero, List.set_cons_succ]
    refine wpAnyH_take (i := 11) (oi := { dst := some 27, op := Op.fieldAddr 74 (Operand.tmp 26) 0, type := 0, pos := "law.go:193", after := #[{ on := 10, ground := Ground.data }, { on := 7, ground := Ground.guard }], guard := some (7, false) }) (v := ?_) rfl (by kernel_rfl) (by kernel_rfl) (by kernel_rfl) (fun _ _ _ h => h) (Or.inl ⟨by simp [Region.wanted, yielded], ?_⟩) (by assumption) ?_
    rotate_left
    · intro w hSw; (try dsimp only at hSw); go_simp
      try with_reducible rfl
    try simp only [Act.put, List.setIfInBounds_toArray, List.set_cons_zero, List.set_cons_succ]
    refine wpAnyH_take (i := 12) (oi := { dst := some 28, op := Op.load 72 (Operand.tmp 27), type := 72, pos := "law.go:193", after := #[{ on := 11, ground := Ground.data }, { on := 7, ground := Ground.guard }], guard := some (7, false) }) (v := ?_) rfl (by kernel_rfl) (by kernel_rfl) (by kernel_rfl) (fun _ _ _ h => h) (Or.inl ⟨by simp [Region.wanted, yielded], ?_⟩) (by assumption) ?_
    rotate_left
    · intro w hSw; (try dsimp only at hSw); have q := hSw.cell r0 (by simp); go_simp
      try with_reducible rfl
    try simp only [Act.put, List.setIfInBounds_toArray, List.set_cons_zero, List.set_cons_succ]
    refine wpAnyH_take (i := 14) (oi := { dst := some 30, op := Op.indexAddr 72 (Operand.tmp 28) (Operand.tmp 29), type := 0, pos := "law.go:193", after := #[{ on := 12, ground := Ground.data }, { on := 13, ground := Ground.data }, { on := 7, ground := Ground.guard }], guard := some (7, false) }) (v := ?_) rfl (by kernel_rfl) (by kernel_rfl) (by kernel_rfl) (fun _ _ _ h => h) (Or.inl ⟨by simp [Region.wanted, yielded], ?_⟩) (by assumption) ?_
    rotate_left
    · intro w hSw; (try dsimp only at hSw); go_simp
      try with_reducible rfl
    try simp only [Act.put, List.setIfInBounds_toArray, List.set_cons_zero, List.set_cons_succ]
    refine wpAnyH_take (i := 15) (oi := { dst := some 31, op := Op.load 82 (Operand.tmp 30), type := 82, pos := "law.go:193", after := #[{ on := 14, ground := Ground.data }, { on := 7, ground := Ground.guard }], guard := some (7, false) }) (v := ?_) rfl (by kernel_rfl) (by kernel_rfl) (by kernel_rfl) (fun _ _ _ h => h) (Or.inl ⟨by simp [Region.wanted, yielded], ?_⟩) (by assumption) ?_
    rotate_left
    · intro w hSw; (try dsimp only at hSw); have q0 := hSw.cell y0 (by simp); have q1 := hSw.cell y1 (by simp); have q2 := hSw.cell y2 (by simp); have q3 := hSw.cell y3 (by simp); have q4 := hSw.cell y4 (by simp); go_simp
      try with_reducible rfl
    try simp only [Act.put, List.setIfInBounds_toArray, List.set_cons_zero, List.set_cons_succ]
    refine wpAnyH_ready (rs := [16]) (by kernel_rfl) (by simp) ?_
    refine AllReadyH.cons (o := { dst := some 32, op := Op.call { callee := Callee.value (Operand.func 56), args := #[Operand.tmp 31], argTypes := #[82] }, type := 102, pos := "law.go:193", after := #[{ on := 15, ground := Ground.data }, { on := 7, ground := Ground.chain }, { on := 7, ground := Ground.guard }], guard := some (7, false) }) rfl (fun K hK => ?_) (AllReadyH.nil)
    go_simp
    go_at_call 56
    refine (tell_r2 _ f).mono ?_
    rintro e w4 ⟨rfl, hg4⟩
    try go_simp
    refine hK.out _ _ (grown_trans (grown_drew W none) hg4 (by simp)) (fun hHeld => ?_)
    clear hK K
    try simp only [Act.put, List.setIfInBounds_toArray, List.set_cons_zero, List.set_cons_succ]
    refine wpAnyH_take (i := 17) (oi := { dst := some 33, op := Op.binOp BinOp.neq 102 (Operand.tmp 24) (Operand.tmp 32) 102, type := 4, pos := "law.go:193", after := #[{ on := 8, ground := Ground.data }, { on := 16, ground := Ground.data }, { on := 7, ground := Ground.guard }], guard := some (7, false) }) (v := ?_) rfl (by kernel_rfl) (by kernel_rfl) (by kernel_rfl) (fun _ _ _ h => h) (Or.inl ⟨by simp [Region.wanted, yielded], ?_⟩) (by assumption) ?_
    rotate_left
    · intro w hSw; (try dsimp only at hSw); have q := ne102 w f; go_simp
      try with_reducible rfl
    try simp only [Act.put, List.setIfInBounds_toArray, List.set_cons_zero, List.set_cons_succ]
    refine wpAnyH_take (i := 18) (oi := { dst := some 34, op := Op.pick (Operand.tmp 23) (Operand.const (Value.bool true)) (Operand.tmp 33), type := 4, pos := "law.go:193", after := #[{ on := 7, ground := Ground.data }, { on := 17, ground := Ground.data }], guard := none }) (v := ?_) rfl (by kernel_rfl) (by kernel_rfl) (by kernel_rfl) (fun _ _ _ h => h) (Or.inl ⟨by rfl, ?_⟩) (by assumption) ?_
    rotate_left
    · intro w hSw; (try dsimp only at hSw); go_simp
      try with_reducible rfl
    try simp only [Act.put, List.setIfInBounds_toArray, List.set_cons_zero, List.set_cons_succ]
    refine wpAnyH_done (by kernel_rfl) ?_ _
    have hW4 : W.grownBy w4 none := grown_trans (grown_drew W none) hg4 (by simp)
    have a2 := hW4.cell k2 (by simp)
    have ax0 := hW4.cell x0 (by simp)
    have ax1 := hW4.cell x1 (by simp)
    have a3 := hW4.cell k3 (by simp)
    have a6 := hW4.cell k6 (by simp)
    have ar0 := hW4.cell r0 (by simp)
    have ay1 := hW4.cell y1 (by simp)
    have hfm := List.mem_of_getElem? HF2.out
    have hbl := (HL.out.fl f hfm).2.1
    have hrd := read_p (HP.out.grown (grown_trans HGW.out hW4 (by simp))) hi f.s 0 f.bs.length (by omega)
    rw [read_size HL.out hi (HL.out.so.lk_of hfm) (HT.out f hfm)] at hrd
    clear k2 k3 k6 r0 y0 y1 y2 y3 y4 x0 x1 x2 x3 x4 hg4 hHeld hfm
    gi_wp2_with fail
    refine ⟨trivial, callsIn_wide.2 (hrd.mono ?_)⟩
    rintro e w5 ⟨xo, xn, xc, rfl, hX0, hg5⟩
    have k3 := hg5.cell a3 (by simp)
    have k6 := hg5.cell a6 (by simp)
    have r0 := hg5.cell ar0 (by simp)
    have y1 := hg5.cell ay1 (by simp)
    have hX := hX0.shows
    have hW5 := grown_trans hW4 hg5 (by simp)
    clear a2 a3 a6 ar0 ay1 ax0 ax1 hrd hX0 hg5 hW4
    gi_wp2_with fail
    refine wpIn_region_round (S := fun V => w5.grownBy V none) (by kernel_rfl) (by kernel_rfl) (by rintro ⟨_, _, h⟩; exact h) (grown_drew w5 none) (fun hHeld => ?_)
    refine wpAnyH_take (i := 0) (oi := { dst := some 44, op := Op.move (Operand.tmp 8), type := 56, pos := "law.go:197", after := #[], guard := none }) (v := ?_) rfl (by kernel_rfl) (by kernel_rfl) (by kernel_rfl) (fun _ _ _ h => h) (Or.inl ⟨by rfl, ?_⟩) (by assumption) ?_
    rotate_left
    · intro w hSw; (try dsimp only at hSw); go_simp
      try with_reducible rfl
    try simp only [Act.put, List.setIfInBounds_toArray, List.set_cons_zero, List.set_cons_succ]
    refine wpAnyH_take (i := 2) (oi := { dst := some 46, op := Op.load 27 (Operand.tmp 3), type := 27, pos := "law.go:197", after := #[], guard := none }) (v := ?_) rfl (by kernel_rfl) (by kernel_rfl) (by kernel_rfl) (fun _ _ _ h => h) (Or.inl ⟨by rfl, ?_⟩) (by assumption) ?_
    rotate_left
    · intro w hSw; (try dsimp only at hSw); have q := hSw.cell k3 (by simp); go_simp
      try with_reducible rfl
    try simp only [Act.put, List.setIfInBounds_toArray, List.set_cons_zero, List.set_cons_succ]
    refine wpAnyH_take (i := 6) (oi := { dst := some 50, op := Op.load 3 (Operand.tmp 6), type := 3, pos := "law.go:197", after := #[], guard := none }) (v := ?_) rfl (by kernel_rfl) (by kernel_rfl) (by kernel_rfl) (fun _ _ _ h => h) (Or.inl ⟨by rfl, ?_⟩) (by assumption) ?_
    rotate_left
    · intro w hSw; (try dsimp only at hSw); have q := hSw.cell k6 (by simp); go_simp
      try with_reducible rfl
    try simp only [Act.put, List.setIfInBounds_toArray, List.set_cons_zero, List.set_cons_succ]
    refine wpAnyH_take (i := 1) (oi := { dst := some 45, op := Op.convert 56 9 (Operand.tmp 44), type := 9, pos := "law.go:197", after := #[{ on := 0, ground := Ground.data }], guard := none }) (v := ?_) rfl (by kernel_rfl) (by kernel_rfl) (by kernel_rfl) (fun _ _ _ h => h) (Or.inl ⟨by rfl, ?_⟩) (by assumption) ?_
    rotate_left
    · intro w hSw; (try dsimp only at hSw); have q := run_string_bs (P := Try.prog) w 56 9 5 Try.underlying56 Try.underlying5 Try.underlying9 (hX.grown hSw); go_simp
      try with_reducible rfl
    try simp only [Act.put, List.setIfInBounds_toArray, List.set_cons_zero, List.set_cons_succ]
    refine wpAnyH_take (i := 3) (oi := { dst := some 47, op := Op.nilCheck (Operand.tmp 46), type := 0, pos := "law.go:197", after := #[{ on := 2, ground := Ground.data }], guard := none }) (v := ?_) rfl (by kernel_rfl) (by kernel_rfl) (by kernel_rfl) (fun _ _ _ h => h) (Or.inl ⟨by rfl, ?_⟩) (by assumption) ?_
    rotate_left
    · intro w hSw; (try dsimp only at hSw); go_simp
      try with_reducible rfl
    try simp only [Act.put, List.setIfInBounds_toArray, List.set_cons_zero, List.set_cons_succ]
    refine wpAnyH_take (i := 4) (oi := { dst := some 48, op := Op.fieldAddr 74 (Operand.tmp 47) 0, type := 0, pos := "law.go:197", after := #[{ on := 3, ground := Ground.data }], guard := none }) (v := ?_) rfl (by kernel_rfl) (by kernel_rfl) (by kernel_rfl) (fun _ _ _ h => h) (Or.inl ⟨by rfl, ?_⟩) (by assumption) ?_
    rotate_left
    · intro w hSw; (try dsimp only at hSw); go_simp
      try with_reducible rfl
    try simp only [Act.put, List.setIfInBounds_toArray, List.set_cons_zero, List.set_cons_succ]
    refine wpAnyH_take (i := 5) (oi := { dst := some 49, op := Op.load 72 (Operand.tmp 48), type := 72, pos := "law.go:197", after := #[{ on := 4, ground := Ground.data }], guard := none }) (v := ?_) rfl (by kernel_rfl) (by kernel_rfl) (by kernel_rfl) (fun _ _ _ h => h) (Or.inl ⟨by rfl, ?_⟩) (by assumption) ?_
    rotate_left
    · intro w hSw; (try dsimp only at hSw); have q := hSw.cell r0 (by simp); go_simp
      try with_reducible rfl
    try simp only [Act.put, List.setIfInBounds_toArray, List.set_cons_zero, List.set_cons_succ]
    refine wpAnyH_take (i := 7) (oi := { dst := some 51, op := Op.indexAddr 72 (Operand.tmp 49) (Operand.tmp 50), type := 0, pos := "law.go:197", after := #[{ on := 5, ground := Ground.data }, { on := 6, ground := Ground.data }], guard := none }) (v := ?_) rfl (by kernel_rfl) (by kernel_rfl) (by kernel_rfl) (fun _ _ _ h => h) (Or.inl ⟨by rfl, ?_⟩) (by assumption) ?_
    rotate_left
    · intro w hSw; (try dsimp only at hSw); go_simp
      try with_reducible rfl
    try simp only [Act.put, List.setIfInBounds_toArray, List.set_cons_zero, List.set_cons_succ]
    refine wpAnyH_take (i := 8) (oi := { dst := some 52, op := Op.fieldAddr 82 (Operand.tmp 51) 1, type := 0, pos := "law.go:197", after := #[{ on := 7, ground := Ground.data }], guard := none }) (v := ?_) rfl (by kernel_rfl) (by kernel_rfl) (by kernel_rfl) (fun _ _ _ h => h) (Or.inl ⟨by rfl, ?_⟩) (by assumption) ?_
    rotate_left
    · intro w hSw; (try dsimp only at hSw); go_simp
      try with_reducible rfl
    try simp only [Act.put, List.setIfInBounds_toArray, List.set_cons_zero, List.set_cons_succ]
    refine wpAnyH_take (i := 9) (oi := { dst := some 53, op := Op.load 9 (Operand.tmp 52), type := 9, pos := "law.go:197", after := #[{ on := 8, ground := Ground.data }], guard := none }) (v := ?_) rfl (by kernel_rfl) (by kernel_rfl) (by kernel_rfl) (fun _ _ _ h => h) (Or.inl ⟨by rfl, ?_⟩) (by assumption) ?_
    rotate_left
    · intro w hSw; (try dsimp only at hSw); have q := hSw.cell y1 (by simp); go_simp
      try with_reducible rfl
    try simp only [Act.put, List.setIfInBounds_toArray, List.set_cons_zero, List.set_cons_succ]
    refine wpAnyH_take (i := 10) (oi := { dst := some 54, op := Op.binOp BinOp.neq 9 (Operand.tmp 45) (Operand.tmp 53) 9, type := 4, pos := "law.go:197", after := #[{ on := 1, ground := Ground.data }, { on := 9, ground := Ground.data }], guard := none }) (v := ?_) rfl (by kernel_rfl) (by kernel_rfl) (by kernel_rfl) (fun _ _ _ h => h) (Or.inl ⟨by rfl, ?_⟩) (by assumption) ?_
    rotate_left
    · intro w hSw; (try dsimp only at hSw); go_simp
      try with_reducible rfl
    try simp only [Act.put, List.setIfInBounds_toArray, List.set_cons_zero, List.set_cons_succ]
    refine wpAnyH_done (by kernel_rfl) ?_ _
    have hW9 : W.grownBy w5.drew none := grown_trans hW5 (grown_drew w5 none) (by simp)
    obtain ⟨j1, j2, j3, j4, j5⟩ := HJ.out
    have bnk := box_own j4 hW9 (fun r e => by cases e)
    rw [HK.out] at bnk
    obtain ⟨W9, hW9e⟩ : ∃ W9, w5.drew = W9 := ⟨_, rfl⟩
    simp only [hW9e] at hW9 bnk ⊢
    have q6 := bnk.cell
    have f6 := bnk.frozen
    have hC9 : Chg W (W9.setCell ⟨nk, 0, none⟩ (.int .i64 ((k : Int) + 1))) (fun q => q = nk) := (Chg.of_grown hW9 _).trans (setCell_chg _ _ _ _)
    have hjs := j5.size
    have hKF : KeepsFrom w6.heap.size W (W9.setCell ⟨nk, 0, none⟩ (.int .i64 ((k : Int) + 1))) := ⟨hC9.size, fun q o hB hk ho => (hC9.block q (Array.getElem?_eq_some_iff.1 hk).1 (fun e => by have h9 : q = nk := e; omega)).trans hk⟩
    have hST : Stay (fun q => q = z ∨ blk ao = some q) W (W9.setCell ⟨nk, 0, none⟩ (.int .i64 ((k : Int) + 1))) := Stay.chg hC9 (fun q e => Nat.lt_of_lt_of_le (hKl q e) hjs) (fun q e => hKn q e)
    have hn := HN.out
    have hB9 : Iz w6 b rb n2 n3 n4 nk (pre ++ [f.td]) (W9.setCell ⟨nk, 0, none⟩ (.int .i64 ((k : Int) + 1))) := by
      refine ⟨(hC9.block n2 j1.lt (by show ¬ n2 = nk; omega)).trans j1, (hC9.block n3 j2.lt (by show ¬ n3 = nk; omega)).trans j2, (hC9.block n4 j3.lt (by show ¬ n4 = nk; omega)).trans j3, ?_, j5.trans hC9⟩
      have h9 := bnk.set (.int .i64 ((k : Int) + 1))
      rw [List.length_append, HK.out]
      exact h9
    clear k3 k6 r0 y1 hX hW5 hHeld bnk hC9 j1 j2 j3 j4 j5 hW9e
    gi_wp2
    exact ⟨hKF, hST, hB9⟩
  case hdone =>
    rintro Dd xs W hDd hxs ⟨j1, j2, j3, j4, j5⟩ hK
    have hlx : xs.length = L.length := by rw [hxs, hfl]
    have hpo := grownBy_putObj' W Dd (.deferred none)
    have hC := j5.ext hpo (fun q e => by cases e; omega)
    have hrp : ∀ r, (some Dd : Option Nat) = some r → ∃ o : Obj, W.heap[r]? = some o ∧ o.isCells = false := fun r e => by cases e; exact ⟨_, hK, rfl⟩
    have d3 := box_own j2 hpo hrp
    have d4 := box_own j3 hpo hrp
    have dk := box_own j4 hpo hrp
    have hGf : w.grownBy (W.putObj Dd (.deferred none)) none := ((Chg.of_grown hG6 _).trans hC).grown (fun q hq e => by have h9 : q = nk := e; omega)
    have hGW : w.grownBy W none := ((Chg.of_grown hG6 _).trans j5).grown (fun q hq e => by have h9 : q = nk := e; omega)
    have hv := HRv.out.grown hGW
    obtain ⟨ao2, ac2, fo2, fn2, fc2, kr, -⟩ := hv.ex
    have r0 := cell_of (i := 0) kr rfl
    have k3 := j2.cell
    have k6 := j4.cell
    rw [hlx] at k6
    have q4 := j3.cell
    have f4 := j3.frozen
    have hrt := HRv.out.lt rb HRv.out.tb
    have hnn := HN.out
    have hn46 : ¬ nk = n4 := by omega
    have hn43 : ¬ n3 = n4 := by omega
    have hn4r : ¬ rb = n4 := by omega
    have hgd := grown_drew W none
    have m6 := hgd.cell k6 (by simp)
    have m3 := hgd.cell k3 (by simp)
    have mr := hgd.cell r0 (by simp)
    have m4 := hgd.cell q4 (by simp)
    have b4d := box_own j3 hgd (fun r e => by cases e)
    have mf4 := b4d.frozen
    have hKd : W.drew.heap[Dd]? = some (.deferred (some [])) := hK
    have hGd : w.grownBy W.drew none := grown_trans hGW hgd (by simp)
    clear hv kr d3 d4 dk hGf hC hpo hrp k3 k6 r0 q4 f4
    gi_wp2_with fail
    refine wpIn_wide.2 ?_
    generalize hw1 : W.drew = w1 at *
    refine region_join (fun a0 e a' w' => e = .normal ∧ a' = (((((((a0.put (some 57) (.int .i64 L.length)).put (some 58) (.pointer (some ⟨rb, 0, none⟩))).put (some 59) (.pointer (some ⟨rb, 0, none⟩))).put (some 60) (.pointer (some ⟨rb, 0, none⟩))).put (some 61) (.slice ao2 L.length ac2)).put (some 62) (.int .i64 L.length)).put (some 63) (.bool true)) ∧ w' = w1.setCell ⟨n4, 0, none⟩ (.bool true)) ?_ ?_
    rotate_left
    rintro e a9 w9 ⟨rfl, rfl, rfl⟩
    simp only [Act.put, List.setIfInBounds_toArray, List.set_cons_zero, List.set_cons_succ]
    clear hw1
    have b4f := b4d.set (.bool true)
    have hGf : w.grownBy (w1.setCell ⟨n4, 0, none⟩ (.bool true)) none := ((Chg.of_grown hGd _).trans (setCell_chg w1 n4 0 (.bool true))).grown (fun q hq e => by have h9 : q = n4 := e; omega)
    have hDn : Dd ≠ n4 := fun e => by subst e; have h9 := hKd.symm.trans b4d; cases h9
    have hKf : (w1.setCell ⟨n4, 0, none⟩ (.bool true)).heap[Dd]? = some (.deferred (some [])) := ((setCell_chg w1 n4 0 (.bool true)).block Dd (Array.getElem?_eq_some_iff.1 hKd).1 hDn).trans hKd
    generalize w1.setCell ⟨n4, 0, none⟩ (.bool true) = Wf at *
    have po := grownBy_putObj' Wf Dd (.deferred none)
    have b4z := box_own b4f po (fun r e => by cases e; exact ⟨_, hKf, rfl⟩)
    have hGz : w.grownBy (Wf.putObj Dd (.deferred none)) none := grown_trans hGf po (fun k e => Or.inr (by cases e; omega))
    clear m6 m3 mr m4 hGd hGf b4d mf4
    gi_wp2_with fail
    refine ⟨by simp, .inl ⟨_, _, rfl, run_takeDeferred hKf, ?_⟩⟩
    exact ⟨_, results_boolB (fn := Try.f22) rfl _ _ _ _ rfl b4z.cell, rfl, hGz⟩
    refine wp_region_held_drew (S := fun V => V.cell? ⟨nk, 0, none⟩ = some (.int .i64 L.length) ∧ V.cell? ⟨n3, 0, none⟩ = some (.pointer (some ⟨rb, 0, none⟩)) ∧ V.cell? ⟨rb, 0, none⟩ = some (.slice ao2 L.length ac2)) (by kernel_rfl) (by rw [hw1]; exact ⟨m6, m3, mr⟩) (fun hHeld => ?_)
    rw [hw1]
    rw [hw1] at hHeld
    refine wpAnyH_take (i := 0) (oi := { dst := some 57, op := Op.load 3 (Operand.tmp 6), type := 3, pos := "law.go:202", after := #[], guard := none }) (v := ?_) rfl (by kernel_rfl) (by kernel_rfl) (by kernel_rfl) (fun _ _ _ h => nomatch h.1) (Or.inl ⟨by rfl, ?_⟩) (by assumption) ?_
    rotate_left
    · intro w hSw; (try dsimp only at hSw); obtain ⟨s1, s2, s3⟩ := hSw; go_simp
      try with_reducible rfl
    try simp only [Act.put, List.setIfInBounds_toArray, List.set_cons_zero, List.set_cons_succ]
    refine wpAnyH_take (i := 1) (oi := { dst := some 58, op := Op.load 27 (Operand.tmp 3), type := 27, pos := "law.go:202", after := #[], guard := none }) (v := ?_) rfl (by kernel_rfl) (by kernel_rfl) (by kernel_rfl) (fun _ _ _ h => nomatch h.1) (Or.inl ⟨by rfl, ?_⟩) (by assumption) ?_
    rotate_left
    · intro w hSw; (try dsimp only at hSw); obtain ⟨s1, s2, s3⟩ := hSw; go_simp
      try with_reducible rfl
    try simp only [Act.put, List.setIfInBounds_toArray, List.set_cons_zero, List.set_cons_succ]
    refine wpAnyH_take (i := 2) (oi := { dst := some 59, op := Op.nilCheck (Operand.tmp 58), type := 0, pos := "law.go:202", after := #[{ on := 1, ground := Ground.data }], guard := none }) (v := ?_) rfl (by kernel_rfl) (by kernel_rfl) (by kernel_rfl) (fun _ _ _ h => nomatch h.1) (Or.inl ⟨by rfl, ?_⟩) (by assumption) ?_
    rotate_left
    · intro w hSw; (try dsimp only at hSw); go_simp
      try with_reducible rfl
    try simp only [Act.put, List.setIfInBounds_toArray, List.set_cons_zero, List.set_cons_succ]
    refine wpAnyH_take (i := 3) (oi := { dst := some 60, op := Op.fieldAddr 74 (Operand.tmp 59) 0, type := 0, pos := "law.go:202", after := #[{ on := 2, ground := Ground.data }], guard := none }) (v := ?_) rfl (by kernel_rfl) (by kernel_rfl) (by kernel_rfl) (fun _ _ _ h => nomatch h.1) (Or.inl ⟨by rfl, ?_⟩) (by assumption) ?_
    rotate_left
    · intro w hSw; (try dsimp only at hSw); go_simp
      try with_reducible rfl
    try simp only [Act.put, List.setIfInBounds_toArray, List.set_cons_zero, List.set_cons_succ]
    refine wpAnyH_take (i := 4) (oi := { dst := some 61, op := Op.load 72 (Operand.tmp 60), type := 72, pos := "law.go:202", after := #[{ on := 3, ground := Ground.data }], guard := none }) (v := ?_) rfl (by kernel_rfl) (by kernel_rfl) (by kernel_rfl) (fun _ _ _ h => nomatch h.1) (Or.inl ⟨by rfl, ?_⟩) (by assumption) ?_
    rotate_left
    · intro w hSw; (try dsimp only at hSw); obtain ⟨s1, s2, s3⟩ := hSw; go_simp
      try with_reducible rfl
    try simp only [Act.put, List.setIfInBounds_toArray, List.set_cons_zero, List.set_cons_succ]
    refine wpAnyH_take (i := 5) (oi := { dst := some 62, op := Op.call { callee := Callee.builtin Builtin.len, args := #[Operand.tmp 61], argTypes := #[72] }, type := 3, pos := "law.go:202", after := #[{ on := 4, ground := Ground.data }], guard := none }) (v := ?_) rfl (by kernel_rfl) (by kernel_rfl) (by kernel_rfl) (fun _ _ _ h => nomatch h.1) (Or.inl ⟨by rfl, ?_⟩) (by assumption) ?_
    rotate_left
    · intro w hSw; (try dsimp only at hSw); go_simp
      try with_reducible rfl
    try simp only [Act.put, List.setIfInBounds_toArray, List.set_cons_zero, List.set_cons_succ]
    refine wpAnyH_take (i := 6) (oi := { dst := some 63, op := Op.binOp BinOp.eql 3 (Operand.tmp 57) (Operand.tmp 62) 3, type := 4, pos := "law.go:202", after := #[{ on := 0, ground := Ground.data }, { on := 5, ground := Ground.data }], guard := none }) (v := ?_) rfl (by kernel_rfl) (by kernel_rfl) (by kernel_rfl) (fun _ _ _ h => nomatch h.1) (Or.inl ⟨by rfl, ?_⟩) (by assumption) ?_
    rotate_left
    · intro w hSw; (try dsimp only at hSw); go_simp
      try with_reducible rfl
    try simp only [Act.put, List.setIfInBounds_toArray, List.set_cons_zero, List.set_cons_succ]
    refine wpAnyH_ready (rs := [7]) (by kernel_rfl) (by simp) ?_
    refine AllReadyH.cons (o := { dst := none, op := Op.store 4 (Operand.tmp 4) (Operand.tmp 63), type := 0, pos := "law.go:202", after := #[{ on := 6, ground := Ground.data }, { on := 0, ground := Ground.phase }, { on := 1, ground := Ground.phase }, { on := 2, ground := Ground.phase }, { on := 3, ground := Ground.phase }, { on := 4, ground := Ground.phase }, { on := 5, ground := Ground.phase }, { on := 6, ground := Ground.phase }], guard := none }) rfl (fun K hK' => ?_) (AllReadyH.nil)
    go_simp
    refine hK'.out _ _ ⟨(setCell_chg w1 n4 0 _).cell m6 hn46, (setCell_chg w1 n4 0 _).cell m3 hn43, (setCell_chg w1 n4 0 _).cell mr hn4r⟩ (fun hHeld => ?_)
    clear hK' K
    try simp only [Act.put, List.setIfInBounds_toArray, List.set_cons_zero, List.set_cons_succ]
    refine wpAnyH_done (by kernel_rfl) ?_ _
    exact ⟨rfl, rfl, rfl⟩
  case hstop =>
    rintro Dd cd s W hDd hs hB
    exact hB.elim
end Go.Proofs.Ytgkeflgfnagnjaa
