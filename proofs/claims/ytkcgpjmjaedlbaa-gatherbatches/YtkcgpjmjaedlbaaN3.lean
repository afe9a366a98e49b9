/-
  The batches gone over: Batches' closure as an iterator whose rounds are told what lies there.
-/
import Derived.Test.YtkcgpjmjaedlbaaN2
import Derived.Sort.CutIn
namespace Go.Proofs.Ytkcgpjmjaedlbaa
open Go.RowKit Go.Shelf
set_option linter.unusedVariables false
attribute [local go_sem] Oper.semAt_some

/-- What is handed on: of how many lists, the base, the records. -/
structure Bx where
  p : Nat
  b : Int
  y : Rl
def benc (x : Bx) : Array Value := #[.int .i64 x.p, .agg #[.int .i64 x.b, .slice x.y.o x.y.n x.y.c]]
/-- What is told of it: it is the next one, in new memory. -/
def Btold (B : Nat) (ps : List Nat) (bs : List (Int × Rl)) (pre : List Bx) (x : Bx) (W : World) : Prop :=
  ps[pre.length]? = some x.p ∧ ∃ q : Rl, bs[pre.length]? = some (x.b, q) ∧ x.y.n = q.n ∧ ds x.y.l = ds q.l ∧ ∃ g, x.y.o = some ⟨g, 0, none⟩ ∧ x.y.c = x.y.n ∧ B ≤ g ∧ Rw W g (some ⟨g, 0, none⟩) x.y.n x.y.n x.y.l ∧ ∀ r ∈ x.y.l, Own W (g + 1) r

theorem Said.bool {α : Type} {J Jx : List α → World → Prop} {Kp : World → World → Prop} {xs : List α} {W W' : World} {e : Ending} (h : Said J Jx Kp xs W e W') : ∃ bl, e = .returned (.bool bl) ∧ Hid ((bl = true → J xs W' ∧ Kp W W') ∧ (bl = false → Jx xs W')) := by
  rcases h with ⟨h1, h2, h3⟩ | ⟨h1, h2⟩
  · exact ⟨true, h1, ⟨fun _ => ⟨h2, h3⟩, fun e => (by cases e)⟩⟩
  · exact ⟨false, h1, ⟨fun e => (by cases e), fun _ => h2⟩⟩

set_option maxRecDepth 100000 in
set_option maxHeartbeats 4000000 in
theorem b48_in (l : Nat) (w : World) (lo hi bb bp gb : Nat) (po : Option Addr) (pl pc : Nat) (ps : List Nat) (bs : List (Int × Rl)) (hn : ∀ x ∈ bs, x.2.n ≤ 100000) (hpl : pl ≤ 100000) (J Jx : List Bx → World → Prop) (m : Nat) (hm : 1 ≤ m) (B : Nat)
    (hJ : ∀ s W W', J s W → W.grownBy W' none → J s W') (hJx : ∀ s W W', Jx s W → W.grownBy W' none → Jx s W')
    (hY : ∀ pre x W1, J pre W1 → Btold B ps bs pre x W1 → YieldAt Fence.wide (m - 1) Try.prog l (benc x) W1 (Said J Jx (Below hi) (pre ++ [x]) W1))
    (W : World) (hB : Bt W lo hi bb bp gb po pl pc ps bs) (hBW : B ≤ W.heap.size) (h0 : J [] W) :
    CallsIn Fence.wide m Try.prog 48 #[.func (.yield l) #[] #[], .pointer (some ⟨bb, 0, none⟩), .pointer (some ⟨bp, 0, none⟩)] W fun e W' => (∃ v, e = .returned v) ∧
      ((∃ ys, ys.length = pl ∧ J ys W') ∨ (∃ pre, Jx pre W')) := by
  refine callsIn_of_wp Try.func48 rfl trivial ?_
  simp only [Try.ntmps48, List.size_toArray, List.length_cons, List.length_nil, Nat.reduceAdd, Nat.reduceSub, Array.replicate_succ, Array.replicate_zero, List.push_toArray, List.append_toArray, List.nil_append, List.cons_append]
  have c0 := cell_of (i := 0) (v := .slice (some ⟨gb, 0, none⟩) pl pl) hB.boxB rfl
  gi_wp2
  gi_loopw [4, 5, 8] (fun _ _ i' wr => ∃ (i : Nat) (ys : List Bx), i ≤ pl ∧ i' = .int .i64 i ∧ ys.length = i ∧ Below hi W wr ∧ J ys wr) (fun _ _ i' _ => pl - (intOf i').toNat)
  case atStart => exact ⟨0, [], Nat.zero_le _, rfl, rfl, Below.refl _ _, h0⟩
  case round =>
    obtain ⟨i, ys, hi', rfl, hyl, hK, hJy⟩ := hrel
    have hBr := hB.eqv (Eqv.of_below hK hB.top (Nat.le_refl _))
    by_cases hlt : i < pl
    · have h1 : i < bs.length := by rw [hB.lbs]; exact hlt
      have h2 : i < ps.length := by rw [hB.lps]; exact hlt
      have hd : decide ((i : Int) < (pl : Int)) = true := by simp; omega
      obtain ⟨⟨xb, q⟩, hxe⟩ : ∃ x, bs[i] = x := ⟨_, rfl⟩
      have hx? : bs[i]? = some (xb, q) := by rw [List.getElem?_eq_getElem h1, hxe]
      obtain ⟨p, hpe⟩ : ∃ p, ps[i]? = some p := ⟨_, List.getElem?_eq_getElem h2⟩
      obtain ⟨r1, r2, r3, r4⟩ := hBr.row i (xb, q) hx?
      obtain ⟨pb, po', hpo, _⟩ := hBr.plan.addr (by omega)
      subst hpo
      have i1 : (0 : Int) ≤ (i : Int) := by omega
      have i2 : (i : Int) < (pl : Int) := by omega
      simp only at r1 r2 r3 r4
      have hqn := hn _ (List.mem_of_getElem? hx?)
      have ga := alloc_grown wr (.cells #[.int .i64 xb, .slice q.o q.n q.c] 94)
      have k5 := heap_alloc_new wr (.cells #[.int .i64 xb, .slice q.o q.n q.c] 94)
      have b0 := cell_of (i := 0) (v := .int .i64 xb) k5 rfl
      have b1 := cell_of (i := 1) (v := .slice q.o q.n q.c) k5 rfl
      have hBa := hBr.eqv (Eqv.of_grown ga hBr.top)
      have cp := cell_of (i := 0) (v := .slice (some ⟨pb, po', none⟩) pl pc) hBa.boxP rfl
      have cq : (wr.alloc (.cells #[.int .i64 xb, .slice q.o q.n q.c] 94)).cell? ⟨pb, po' + i, none⟩ = some (.int .i64 (p : Int)) := hBa.plan.at (j := i) (u := iv p) (by rw [List.getElem?_map, hpe]; rfl)
      have hKa : Below hi W (wr.alloc (.cells #[.int .i64 xb, .slice q.o q.n q.c] 94)) := hK.trans ((grownBy_below ga).mono (Nat.le_trans hBr.top (Nat.le_refl _)))
      have hJa := hJ _ _ _ hJy ga
      have r3a := (hBa.row i (xb, q) hx?).2.2.1
      simp only at r3a
      have hsz := ga.size
      gi_wp2_with fail
      clear r1 r2 r3 k5 hBr
      generalize wr.heap.size = z5 at *
      generalize wr.alloc (.cells #[.int .i64 xb, .slice q.o q.n q.c] 94) = wa at *
      have hcpy : ∀ V, wa.grownBy V none → Calls Try.prog 46 #[.slice q.o q.n q.c] V fun e w' => ∃ rs, e = .returned (.slice (some ⟨V.heap.size, 0, none⟩) q.n q.n) ∧ Rw w' V.heap.size (some ⟨V.heap.size, 0, none⟩) q.n q.n rs ∧ ds rs = ds q.l ∧ (∀ r ∈ rs, Own w' (V.heap.size + 1) r) ∧ V.grownBy w' none := fun V hV => copy_any V q.o q.n q.c q.l (r3a.grown hV) hqn (fun r hr => ⟨(r3a.shows r hr).kb, (r3a.shows r hr).vb⟩)
      have hsz5 : (wa.drewN 1).heap.size = wa.heap.size := rfl
      have hBz : B ≤ wa.heap.size := Nat.le_trans hBW hKa.size
      have mixed : Try.prog.follows .mixedOrders = true := by kernel_rfl
      gi_cut [25] from 13 (fun v wx => ∃ (bl : Bool) (x : Bx), v = .bool (!bl) ∧ Hid ((bl = true → J (ys ++ [x]) wx ∧ Below hi W wx) ∧ (bl = false → Jx (ys ++ [x]) wx)))
      case first =>
        gi_region_with_o (first
            | (refine ⟨trivial, ?_⟩; gi_at_call 46; refine callsIn_wide.2 ((hcpy _ (grown_drewN wa 1 none)).mono ?_); rintro e w5 ⟨rs, rfl, hRw, hDs, hOw, hg5⟩; have hgd : wa.grownBy w5 none := grown_trans (grown_drewN wa 1 none) hg5 (by simp); have m1 := hgd.cell cp (by simp); have m2 := hgd.cell cq (by simp); have m3 := hgd.cell b0 (by simp); have m4 := hgd.cell b1 (by simp); obtain ⟨fn, tmps, assign, body, hy, hR⟩ := hY ys ⟨p, xb, ⟨some ⟨wa.heap.size, 0, none⟩, q.n, q.n, rs⟩⟩ w5 (hJ _ _ _ hJa hgd) ⟨by rw [hyl]; exact hpe, q, by rw [hyl]; exact hx?, rfl, hDs, _, rfl, rfl, hBz, hRw, hOw⟩; simp only [benc] at hy)
            | (refine ⟨trivial, hR.mono ?_⟩; intro e w6 hsd; obtain ⟨bl, rfl, hsb⟩ := hsd.bool)
            | (refine hR.mono ?_; intro e w6 hsd; obtain ⟨bl, rfl, hsb⟩ := hsd.bool))
        all_goals
          clear hy hR
          have hsc : Hid ((bl = true → J (ys ++ [_]) w6 ∧ Below hi W w6) ∧ (bl = false → Jx (ys ++ [_]) w6)) := ⟨fun e => ⟨(hsb.out.1 e).1, (hKa.trans ((grownBy_below hgd).mono hBa.top)).trans (hsb.out.1 e).2⟩, hsb.out.2⟩
          gi_wp2_with fail
          gi_meet
          case rel => exact ⟨bl, _, rfl, hsc⟩
      case rest =>
        obtain ⟨bl, x, rfl, hsb⟩ := hcut
        cases bl
        · have hjx := hsb.out.2 rfl
          gi_wp2
          exact bodyPost_ret (results_none rfl _ _ _) rfl ⟨⟨_, rfl⟩, .inr ⟨_, hjx⟩⟩
        · obtain ⟨hj6, hk6⟩ := hsb.out.1 rfl
          gi_wp2
          go_roundw
          case rel => exact ⟨i + 1, _, by omega, by go_num, by simp [hyl], hk6, hj6⟩
          case measure => simp [intOf]; omega
    · obtain rfl : i = pl := by omega
      have hd : decide ((i : Int) < (i : Int)) = false := by simp
      gi_wp2
      exact ⟨rfl, _, results_none rfl _ _ _, ⟨_, rfl⟩, .inl ⟨ys, hyl, hJy⟩⟩
end Go.Proofs.Ytkcgpjmjaedlbaa
