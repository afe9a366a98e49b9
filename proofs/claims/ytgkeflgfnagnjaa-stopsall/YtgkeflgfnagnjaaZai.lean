import Derived.Test.YtgkeflgfnagnjaaZaf
import Derived.Test.YtgkeflgfnagnjaaZah
/-
  stays: how many bytes of a file a crash leaves.
-/
namespace Go.Proofs.Ytgkeflgfnagnjaa
open Go.RowKit
set_option linter.unusedVariables false
set_option maxRecDepth 100000

/-- What a crash leaves of a file, and how many picks that took: the size, whether it is there, the next pick's place. -/
def staysR (l : List Int) (n k : Nat) (sz la : Int) (th nl : Bool) : Int × Bool × Nat :=
  if (!th || !nl) = true then
    if pickR l k 2 = 0 then (0, false, min (k + 1) n)
    else if sz - la = 0 then (sz, true, min (k + 1) n) else (la + pickR l (min (k + 1) n) (sz - la + 1), true, min (min (k + 1) n + 1) n)
  else if sz - la = 0 then (sz, true, k) else (la + pickR l k (sz - la + 1), true, min (k + 1) n)
section
variable {w w' : World}

theorem cell_of {b i : Nat} {c : Array Value} {e : TypeId} {v : Value} (h : w.heap[b]? = some (.cells c e (0, 0))) (hi : c[i]? = some v) : w.cell? ⟨b, i, none⟩ = some v := by simp [World.cell?, h, hi]
theorem Pk.grown {za zp k : Nat} {o : Option Addr} {n c : Nat} {l : List Int} (h : Pk w za zp k o n c l) (hg : w.grownBy w' none) : Pk w' za zp k o n c l :=
  ⟨box_own h.b0 hg (fun r e => by cases e), box_own h.b1 hg (fun r e => by cases e), ⟨h.sl.len, h.sl.room, h.sl.top, h.sl.pl, h.sl.nil, fun b i e j x hx => hg.cell (h.sl.k b i e j x hx) (by simp)⟩, h.le, h.ne, h.na⟩
theorem pickR_range (l : List Int) (k : Nat) (z : Int) (hz : 0 < z) : 0 ≤ pickR l k z ∧ pickR l k z < z := by
  unfold pickR
  split
  · omega
  · exact ⟨Int.emod_nonneg _ (by omega), Int.emod_lt_of_pos _ hz⟩
set_option maxRecDepth 100000 in
set_option maxHeartbeats 2000000 in
theorem stays_any (s : ByteArray) (sz la : Nat) (th nl : Bool) (za zp k : Nat) (o : Option Addr) (n c : Nat) (l : List Int) (h : Pk w za zp k o n c l) (hla : la ≤ sz) (hsz : sz ≤ 16777216) (hl : ∀ x ∈ l, 0 ≤ x ∧ x < 9223372036854775808) (hn : n ≤ 4611686018427387904) :
    Calls Try.prog 64 #[toldV s sz la th nl, .func (.func 86) #[] #[.pointer (some ⟨za, 0, none⟩), .pointer (some ⟨zp, 0, none⟩)]] w fun e w' => e = .returned (.tuple #[.int .i64 (staysR l n k sz la th nl).1, .bool (staysR l n k sz la th nl).2.1]) ∧ Pk w' za zp (staysR l n k sz la th nl).2.2 o n c l ∧ Chg w w' (fun q => q = za) := by
  unfold toldV
  have hga := alloc_grown w (.cells #[.string s, .int .i64 sz, .int .i64 la, .bool th, .bool nl] 102)
  have hka := World.alloc_heap_new w (.cells #[.string s, .int .i64 sz, .int .i64 la, .bool th, .bool nl] 102)
  have v1 := cell_at hka (i := 1)
  have v2 := cell_at hka (i := 2)
  have v3 := cell_at hka (i := 3)
  have v4 := cell_at hka (i := 4)
  simp only [List.getElem?_toArray, List.getElem?_cons_zero, List.getElem?_cons_succ] at v1 v2 v3 v4
  have hzl : za < w.heap.size := h.b0.lt
  have hzn : ¬ w.heap.size = za := by omega
  have hc0 : Chg w (w.alloc (.cells #[.string s, .int .i64 sz, .int .i64 la, .bool th, .bool nl] 102)) (fun q => q = za) := Chg.of_grown hga _
  have hP0 := h.grown hga
  have hst : ∀ k W, Pk W za zp k o n c l → Chg w W (fun q => q = za) → W.heap[w.heap.size]? = some (.cells #[.string s, .int .i64 sz, .int .i64 la, .bool th, .bool nl] 102) → ∀ ways, 0 < ways → ways < 4611686018427387904 → Calls Try.prog 86 #[.int .i64 ways, .pointer (some ⟨za, 0, none⟩), .pointer (some ⟨zp, 0, none⟩)] W fun e w' => e = .returned (.int .i64 (pickR l k ways)) ∧ Pk w' za zp (min (k + 1) n) o n c l ∧ Chg w w' (fun q => q = za) ∧ w'.heap[w.heap.size]? = some (.cells #[.string s, .int .i64 sz, .int .i64 la, .bool th, .bool nl] 102) := fun k W hP hc hk ways h1 h2 =>
    (pick_any za zp k o n c l hP ways h1 h2 hl hn).mono fun e w' q => ⟨q.1, q.2.1, hc.trans q.2.2, (q.2.2.block _ (lt_of_heap hk) hzn).trans hk⟩
  by_cases hb : (!th || !nl) = true
  · cases th with
    | false =>
      have hR : staysR l n k sz la false nl = (if pickR l k 2 = 0 then (0, false, min (k + 1) n) else if (sz : Int) - la = 0 then ((sz : Int), true, min (k + 1) n) else ((la : Int) + pickR l (min (k + 1) n) ((sz : Int) - la + 1), true, min (min (k + 1) n + 1) n)) := by simp [staysR]
      rw [hR]
      clear hR
      have hp1 := hst k _ hP0 hc0 hka 2 (by omega) (by omega)
      have hpr2 := pickR_range l k 2 (by omega)
      generalize pickR l k 2 = r at *
      obtain ⟨k', hk'⟩ : ∃ k', min (k + 1) n = k' := ⟨_, rfl⟩
      rw [hk'] at hp1 ⊢
      clear hk'
      by_cases hr : r = 0
      · subst hr
        rw [if_pos rfl]
        go_enter Try.func64, Try.ntmps64
        go_wp2_with fail
        refine hp1.mono ?_
        clear hp1 hst
        rintro e w2 ⟨rfl, hP2, hc2, hk2⟩
        go_wp2
        go_ret2
        exact ⟨rfl, hP2, hc2⟩
      · have dr : (r == 0) = false := by simpa using hr
        rw [if_neg hr]
        by_cases hz : sz - la = 0
        · obtain rfl : sz = la := by omega
          rw [if_pos (by omega)]
          go_enter Try.func64, Try.ntmps64
          go_wp2_with fail
          refine hp1.mono ?_
          clear hp1 hst
          rintro e w2 ⟨rfl, hP2, hc2, hk2⟩
          have y1 := cell_of (i := 1) (v := .int .i64 (sz : Int)) hk2 rfl
          have y2 := cell_of (i := 2) (v := .int .i64 (sz : Int)) hk2 rfl
          go_wp2
          go_ret2
          exact ⟨rfl, hP2, hc2⟩
        · have hz2 : ¬ (sz : Int) - (la : Int) = 0 := by omega
          have d0 : ((sz : Int) - (la : Int) == 0) = false := by simpa using hz2
          rw [if_neg hz2]
          have hwr : IntKind.i64.wrap ((sz : Int) - (la : Int)) = (sz : Int) - (la : Int) := by rw [IntWalk.i64_in _ (by omega)]
          have hwr2 : IntKind.i64.wrap ((sz : Int) - (la : Int) + 1) = (sz : Int) - (la : Int) + 1 := by rw [IntWalk.i64_in _ (by omega)]
          have hpr := pickR_range l k' ((sz : Int) - la + 1) (by omega)
          have hwr3 : IntKind.i64.wrap ((la : Int) + pickR l k' ((sz : Int) - la + 1)) = (la : Int) + pickR l k' ((sz : Int) - la + 1) := by rw [IntWalk.i64_in _ (by omega)]
          go_enter Try.func64, Try.ntmps64
          go_wp2_with fail
          refine hp1.mono ?_
          clear hp1
          rintro e w1 ⟨rfl, hP1, hc1, hk1⟩
          have x1 := cell_of (i := 1) (v := .int .i64 (sz : Int)) hk1 rfl
          have x2 := cell_of (i := 2) (v := .int .i64 (la : Int)) hk1 rfl
          clear v1 v2 v3 v4
          go_wp2_with fail
          go_region_with ((go_at_call 86; refine (hst k' _ (hP1.grown (grown_drew w1 none)) (hc1.trans (Chg.of_grown (grown_drew w1 none) _)) hk1 _ (by omega) (by omega)).mono ?_; rintro e w2 ⟨rfl, hP2, hc2, hk2⟩; have y2 := cell_of (i := 2) (v := .int .i64 (la : Int)) hk2 rfl))
          all_goals
            clear hst x1 x2
            go_wp2
            go_ret2
            exact ⟨rfl, hP2, hc2⟩
    | true =>
      obtain rfl : nl = false := by simpa using hb
      have hR : staysR l n k sz la true false = (if pickR l k 2 = 0 then (0, false, min (k + 1) n) else if (sz : Int) - la = 0 then ((sz : Int), true, min (k + 1) n) else ((la : Int) + pickR l (min (k + 1) n) ((sz : Int) - la + 1), true, min (min (k + 1) n + 1) n)) := by simp [staysR]
      rw [hR]
      clear hR
      have hp1 := hst k _ hP0 hc0 hka 2 (by omega) (by omega)
      have hpr2 := pickR_range l k 2 (by omega)
      generalize pickR l k 2 = r at *
      obtain ⟨k', hk'⟩ : ∃ k', min (k + 1) n = k' := ⟨_, rfl⟩
      rw [hk'] at hp1 ⊢
      clear hk'
      by_cases hr : r = 0
      · subst hr
        rw [if_pos rfl]
        go_enter Try.func64, Try.ntmps64
        go_wp2_with fail
        refine hp1.mono ?_
        clear hp1 hst
        rintro e w2 ⟨rfl, hP2, hc2, hk2⟩
        go_wp2
        go_ret2
        exact ⟨rfl, hP2, hc2⟩
      · have dr : (r == 0) = false := by simpa using hr
        rw [if_neg hr]
        by_cases hz : sz - la = 0
        · obtain rfl : sz = la := by omega
          rw [if_pos (by omega)]
          go_enter Try.func64, Try.ntmps64
          go_wp2_with fail
          refine hp1.mono ?_
          clear hp1 hst
          rintro e w2 ⟨rfl, hP2, hc2, hk2⟩
          have y1 := cell_of (i := 1) (v := .int .i64 (sz : Int)) hk2 rfl
          have y2 := cell_of (i := 2) (v := .int .i64 (sz : Int)) hk2 rfl
          go_wp2
          go_ret2
          exact ⟨rfl, hP2, hc2⟩
        · have hz2 : ¬ (sz : Int) - (la : Int) = 0 := by omega
          have d0 : ((sz : Int) - (la : Int) == 0) = false := by simpa using hz2
          rw [if_neg hz2]
          have hwr : IntKind.i64.wrap ((sz : Int) - (la : Int)) = (sz : Int) - (la : Int) := by rw [IntWalk.i64_in _ (by omega)]
          have hwr2 : IntKind.i64.wrap ((sz : Int) - (la : Int) + 1) = (sz : Int) - (la : Int) + 1 := by rw [IntWalk.i64_in _ (by omega)]
          have hpr := pickR_range l k' ((sz : Int) - la + 1) (by omega)
          have hwr3 : IntKind.i64.wrap ((la : Int) + pickR l k' ((sz : Int) - la + 1)) = (la : Int) + pickR l k' ((sz : Int) - la + 1) := by rw [IntWalk.i64_in _ (by omega)]
          go_enter Try.func64, Try.ntmps64
          go_wp2_with fail
          refine hp1.mono ?_
          clear hp1
          rintro e w1 ⟨rfl, hP1, hc1, hk1⟩
          have x1 := cell_of (i := 1) (v := .int .i64 (sz : Int)) hk1 rfl
          have x2 := cell_of (i := 2) (v := .int .i64 (la : Int)) hk1 rfl
          clear v1 v2 v3 v4
          go_wp2_with fail
          go_region_with ((go_at_call 86; refine (hst k' _ (hP1.grown (grown_drew w1 none)) (hc1.trans (Chg.of_grown (grown_drew w1 none) _)) hk1 _ (by omega) (by omega)).mono ?_; rintro e w2 ⟨rfl, hP2, hc2, hk2⟩; have y2 := cell_of (i := 2) (v := .int .i64 (la : Int)) hk2 rfl))
          all_goals
            clear hst x1 x2
            go_wp2
            go_ret2
            exact ⟨rfl, hP2, hc2⟩
  · obtain ⟨rfl, rfl⟩ : th = true ∧ nl = true := by cases th <;> cases nl <;> simp at hb ⊢
    by_cases hz : sz - la = 0
    · obtain rfl : sz = la := by omega
      have hR : staysR l n k sz sz true true = ((sz : Int), true, k) := by simp [staysR]
      rw [hR]
      go_enter Try.func64, Try.ntmps64
      go_wp2
      go_ret2
      exact ⟨rfl, hP0, hc0⟩
    · have hz2 : ¬ (sz : Int) - (la : Int) = 0 := by omega
      have d0 : ((sz : Int) - (la : Int) == 0) = false := by simpa using hz2
      have hR : staysR l n k sz la true true = ((la : Int) + pickR l k ((sz : Int) - la + 1), true, min (k + 1) n) := by simp [staysR, hz2]
      rw [hR]
      have hwr : IntKind.i64.wrap ((sz : Int) - (la : Int)) = (sz : Int) - (la : Int) := by rw [IntWalk.i64_in _ (by omega)]
      have hwr2 : IntKind.i64.wrap ((sz : Int) - (la : Int) + 1) = (sz : Int) - (la : Int) + 1 := by rw [IntWalk.i64_in _ (by omega)]
      have hpr := pickR_range l k ((sz : Int) - la + 1) (by omega)
      have hwr3 : IntKind.i64.wrap ((la : Int) + pickR l k ((sz : Int) - la + 1)) = (la : Int) + pickR l k ((sz : Int) - la + 1) := by rw [IntWalk.i64_in _ (by omega)]
      go_enter Try.func64, Try.ntmps64
      go_wp2_with fail
      generalize w.alloc (.cells #[.string s, .int .i64 sz, .int .i64 la, .bool true, .bool true] 102) = w0 at *
      go_region_with ((go_at_call 86; refine (hst k _ (hP0.grown (grown_drew w0 none)) (hc0.trans (Chg.of_grown (grown_drew w0 none) _)) hka _ (by omega) (by omega)).mono ?_; rintro e w2 ⟨rfl, hP2, hc2, hk2⟩; have y2 := cell_of (i := 2) (v := .int .i64 (la : Int)) hk2 rfl))
      all_goals
        clear hst v1 v2 v3 v4
        go_wp2
        go_ret2
        exact ⟨rfl, hP2, hc2⟩
end
end Go.Proofs.Ytgkeflgfnagnjaa

/-
  A file put into a map of files, as one step of a region that draws its order; what stands at a name behind it.
-/
namespace Go.Proofs.Ytgkeflgfnagnjaa
open Go.RowKit Go.Maps Go.WideMaps
set_option linter.unusedVariables false
set_option maxRecDepth 100000

theorem step_put {ops : Array Oper} {o : Oper} {a : Act} {w : World} {K : Act → World → Prop} {Q : Exit → Act → World → Prop} {E : Prop} (hgd : o.guard = none) (m x v : Operand) (hop : o.op = Op.mapUpdate 64 m x v)
    (mb n : Nat) (D : DataW Unit) (hm : a.eval m = .map (some mb)) (h : Mp w mb n D) (hn : n < maxLen) (s : ByteArray) (hs : s.size ≤ maxLen) (hx : a.eval x = .string s) (g : Nat) (hv : a.eval v = .pointer (some ⟨g, 0, none⟩))
    (hK : ∀ w', Mp w' mb (n + 1) (D.put (.string s.data.toList) (.lit (.int .i64 g))) → w.grownBy w' (some mb) → K (a.put o.dst undef) w') :
    if Region.wanted o (yielded ops a.tmps) = true then Oper.wp Try.prog o a w K Q else E := by
  have hw : Region.wanted o (yielded ops a.tmps) = true := by simp [Region.wanted, hgd]
  rw [if_pos hw]
  obtain ⟨w', hrun, r1, r2⟩ := h.update (string_keyed Try.underlying9) Try.underlying64 hn (key := .string s) (val := .pointer (some ⟨g, 0, none⟩)) (keyOf_string_mk Try.underlying9 hs) (d := .lit (.int .i64 g)) (ps := []) rfl
  unfold Oper.wp
  simp [execOp, hop, hm, hx, hv, hrun, Result.andThen]
  exact hK w' r1 r2
theorem at_none (s : ByteArray) : at? (.map [] : DataW Unit) s none := by
  unfold at?
  simp [DataW.atKey]
end Go.Proofs.Ytgkeflgfnagnjaa

/-
  All's closure over files told, as an iterator whose rounds leave what it reads; what stands at a name behind a file put; what a crash keeps.
-/
namespace Go.Proofs.Ytgkeflgfnagnjaa
open Go.RowKit Go.Shelf
set_option linter.unusedVariables false
set_option maxRecDepth 100000
attribute [local go_sem] Oper.semAt_some

/-- Some blocks stay as they are. -/
def Stay (K : Nat → Prop) (A B : World) : Prop := A.heap.size ≤ B.heap.size ∧ ∀ k, K k → B.heap[k]? = A.heap[k]?
theorem Stay.refl (K : Nat → Prop) (A : World) : Stay K A A := ⟨Nat.le_refl _, fun _ _ => rfl⟩
theorem Stay.trans {K : Nat → Prop} {A B C : World} (h : Stay K A B) (h2 : Stay K B C) : Stay K A C := ⟨Nat.le_trans h.1 h2.1, fun k hk => (h2.2 k hk).trans (h.2 k hk)⟩
theorem Stay.chg {K S : Nat → Prop} {A B : World} (h : Chg A B S) (hK : ∀ k, K k → k < A.heap.size) (hS : ∀ k, K k → ¬ S k) : Stay K A B := ⟨h.size, fun k hk => h.block k (hK k hk) (hS k hk)⟩
theorem Stay.grown {K : Nat → Prop} {A B : World} (h : A.grownBy B none) (hK : ∀ k, K k → k < A.heap.size) : Stay K A B := ⟨h.size, fun k hk => h.block k (hK k hk) (by simp)⟩
theorem Tw.stay {w W : World} {K : Nat → Prop} {base : Nat} {ao : Option Addr} {n cap : Nat} {l : List Td} (h : Tw w base ao n cap l) (hB : Stay K w W) (hb : ∀ k, blk ao = some k → K k) : Tw W base ao n cap l := by
  refine ⟨h.len, h.row.1, ?_⟩
  rcases h.row.2 with h2 | ⟨g, c, cur, hv, hg, r, r2⟩
  · exact Or.inl h2
  · cases hv
    exact Or.inr ⟨g, cap, cur, rfl, hg, (hB.2 g (hb g rfl)).trans r, r2⟩
set_option maxRecDepth 100000 in
set_option maxHeartbeats 2000000 in
theorem all1_stay (n' : Nat) (h1 : 1 ≤ n') (w : World) (z base : Nat) (K : Nat → Prop) (ao : Option Addr) (n cap : Nat) (l : List Td) (hz : Boxed w z 139 (.slice ao n cap)) (hw : Tw w base ao n cap l) (hzi : K z) (hai : ∀ k, blk ao = some k → K k) (hKl : ∀ k, K k → k < w.heap.size) (hn : n ≤ 100000) :
    SeqTold Fence.wide n' Try.prog 84 #[.pointer (some ⟨z, 0, none⟩)] (fun t : Td => #[t.val]) (fun _ pre x _ => l[pre.length]? = some x) (Stay K) (fun xs => xs = l) (fun pre => pre <+: l) w := by
  intro q J Jx W hB hJa hJxa hY h0
  have hlen := hw.len
  have hb2 := (hB.cell (p := ⟨z, 0, none⟩) hz.lt).trans hz.cell
  have hwW : Tw W base ao n cap l := hw.below hB (fun k hk => (hw.from_base k hk).2)
  have hKW : ∀ k, K k → k < W.heap.size := fun k hk => Nat.lt_of_lt_of_le (hKl k hk) hB.size
  show CallsIn Fence.wide n' Try.prog 84 #[.func (.yield q) #[] #[], .pointer (some ⟨z, 0, none⟩)] W _
  refine callsIn_of_wp Try.func84 rfl trivial ?_
  simp only [Try.ntmps84, List.size_toArray, List.length_cons, List.length_nil, Nat.reduceAdd, Nat.reduceSub, Array.replicate_succ, Array.replicate_zero, List.push_toArray, List.append_toArray, List.nil_append, List.cons_append]
  gi_wp2
  gi_loopw [4, 7] (fun _ i wr => ∃ k : Nat, i = .int .i64 k ∧ k ≤ n ∧ Stay K W wr ∧ J (l.take k) wr) (fun _ i _ => n - (intOf i).toNat)
  case atStart =>
    exact ⟨0, rfl, Nat.zero_le _, Stay.refl _ _, by simpa using h0⟩
  case round =>
    obtain ⟨k, rfl, hk, hBr, hJ⟩ := hrel
    by_cases hlt : k < n
    · have hd : decide ((k : Int) < (n : Int)) = true := by simp; omega
      have hkl : k < l.length := by omega
      obtain ⟨t, ht⟩ : ∃ t, l[k] = t := ⟨_, rfl⟩
      have ht? : l[k]? = some t := by rw [List.getElem?_eq_getElem hkl, ht]
      obtain ⟨g, rfl, _, _⟩ := hwW.addr (by omega)
      have hwr := hwW.stay hBr hai
      have c0 := hwr.at ht? 0 (by decide)
      have c1 := hwr.at ht? 1 (by decide)
      have c2 := hwr.at ht? 2 (by decide)
      have c3 := hwr.at ht? 3 (by decide)
      have c4 := hwr.at ht? 4 (by decide)
      simp only [Td.cells, List.getElem?_cons_zero, List.getElem?_cons_succ, Nat.add_zero] at c0 c1 c2 c3 c4
      have ga := alloc_grown wr (.cells #[.string t.s, .int .i64 t.sz, .int .i64 t.la, .bool t.th, .bool t.nl] 102)
      have hJ2 := hJa _ _ _ _ hJ ga (fun q e => by cases e)
      have hB2 : Stay K W _ := hBr.trans (Stay.grown ga (fun k hk => Nat.lt_of_lt_of_le (hKW k hk) hBr.1))
      obtain ⟨fn, tmps, assign, body, hy, hR⟩ := hY (l.take k) t _ hJ2 (by rw [List.length_take, Nat.min_eq_left (by omega)]; exact ht?)
      simp only [Td.val, toldV] at hy
      have htk : l.take k ++ [t] = l.take (k + 1) := by rw [List.take_succ_eq_append_getElem hkl, ht]
      rw [htk] at hR
      have b1 : (0 : Int) ≤ (k : Int) := by omega
      have b2 : (k : Int) < (n : Int) := by omega
      gi_wp2
      refine hR.mono ?_
      clear hy hR hJ hJ2 c0 c1 c2 c3 c4
      rintro e W3 (⟨rfl, hJ3, hk3⟩ | ⟨rfl, hJx3⟩)
      · gi_wp2
        go_roundw
        case rel => exact ⟨k + 1, by go_num, by omega, hB2.trans hk3, hJ3⟩
        case measure => simp [intOf]; omega
      · gi_wp2
        refine bodyPost_ret (results_none rfl _ _ _) rfl ?_
        exact ⟨⟨_, rfl⟩, .inr ⟨_, List.take_prefix _ _, hJx3⟩⟩
    · obtain rfl : k = n := by omega
      gi_wp2
      go_end0
      exact ⟨⟨_, rfl⟩, .inl ⟨_, List.take_of_length_le (by omega), hJ⟩⟩
theorem str_inj {s t : ByteArray} (h : Lit.string s.data.toList = Lit.string t.data.toList) : s = t := by
  have h1 : s.data.toList = t.data.toList := by injection h
  have h2 : s.data = t.data := by rw [← Array.toArray_toList (xs := s.data), h1, Array.toArray_toList]
  cases s; cases t; simpa using h2
/-- What stands at a name behind a file put. -/
theorem at_put {D : DataW Unit} {n : Nat} {w : World} {m : Nat} (h : Mp w m n D) (s t : ByteArray) (g : Nat) (o : Option Nat) (ht : at? D t o) : at? (D.put (.string s.data.toList) (.lit (.int .i64 g))) t (if t = s then some g else o) := by
  unfold at? at *
  by_cases e : t = s
  · subst e
    rw [if_pos rfl, Maps.atKey_put_same h.isMap (show WideAt.IsKeyLit (.string _) from trivial)]
  · rw [if_neg e, Maps.atKey_put_other (fun h9 => e (str_inj h9)), ht]
/-- What a crash has kept, and where its picks stand, behind one file more. -/
def crashS (l : List Int) (n : Nat) (st : (ByteArray → Option Nat) × Nat) (t : Td) : (ByteArray → Option Nat) × Nat :=
  let r := staysR l n st.2 t.sz t.la t.th t.nl
  (if r.2.1 then fun x => if x = t.s then some r.1.toNat else st.1 x else st.1, r.2.2)
def crashF (l : List Int) (n : Nat) (pre : List Td) : (ByteArray → Option Nat) × Nat := pre.foldl (crashS l n) (fun _ => none, 0)
theorem crashF_snoc (l : List Int) (n : Nat) (pre : List Td) (t : Td) : crashF l n (pre ++ [t]) = crashS l n (crashF l n pre) t := by simp [crashF]
theorem Ow.chg {w w' : World} {base : Nat} {e : TypeId} {ao : Option Addr} {n cap : Nat} {l : List UInt8} {S : Nat → Prop} (h : Ow w base e ao n cap l) (hc : Chg w w' S) (hb : ∀ k, blk ao = some k → ¬ S k) : Ow w' base e ao n cap l := by
  refine ⟨h.len, h.row.1, ?_⟩
  rcases h.row.2 with h2 | ⟨g, c, cur, hv, hg, r, r2⟩
  · exact Or.inl h2
  · cases hv
    exact Or.inr ⟨g, cap, cur, rfl, hg, (hc.block g (lt_of_heap r) (hb g rfl)).trans r, r2⟩
/-- A file's block and row are no other file's. -/
def Lone (w : World) (D : DataW Unit) (s : ByteArray) (g : Nat) (bo : Option Addr) : Prop :=
  ∀ t g', at? D t (some g') → t ≠ s → g' ≠ g ∧ ∀ bo' n c q, w.cell? ⟨g', 0, none⟩ = some (.slice bo' n c) → blk bo' = some q → blk bo ≠ some q
/-- The files that a crash has kept lie in the new map. -/
def Kept (w : World) (base : Nat) (D : DataW Unit) (K : ByteArray → Option Nat) (B : ByteArray → List UInt8) : Prop :=
  (∀ kl d, (∀ zd, D.atKey kl zd = d) → ∃ g : Nat, d = .lit (.int .i64 g)) ∧ ∀ s, (K s = none → at? D s none) ∧ ∀ z, K s = some z → ∃ g bo bc, (base ≤ g ∧ Lone w D s g bo) ∧ at? D s (some g) ∧ Fl w g bo z bc z true true ∧ Ow w base 5 bo z bc ((B s).take z)
theorem Kept.at {w : World} {base : Nat} {D : DataW Unit} {K : ByteArray → Option Nat} {B : ByteArray → List UInt8} (h : Kept w base D K B) {s : ByteArray} {g : Nat} (hg : at? D s (some g)) : ∃ z bo bc, K s = some z ∧ (base ≤ g ∧ Lone w D s g bo) ∧ Fl w g bo z bc z true true ∧ Ow w base 5 bo z bc ((B s).take z) := by
  cases hK : K s with
  | none => have := at_one hg ((h.2 s).1 hK); cases this
  | some z =>
    obtain ⟨g', bo, bc, h1, h2, h3, h4⟩ := (h.2 s).2 z hK
    obtain rfl : g = g' := by simpa using at_one hg h2
    exact ⟨z, bo, bc, rfl, h1, h3, h4⟩
theorem Kept.chg {w w' : World} {base : Nat} {D : DataW Unit} {K : ByteArray → Option Nat} {B : ByteArray → List UInt8} {S : Nat → Prop} (h : Kept w base D K B) (hc : Chg w w' S) (hS : ∀ k t, S k → base ≤ k → Ty w k t → False) : Kept w' base D K B := by
  refine ⟨h.1, fun s => ⟨(h.2 s).1, fun z hz => ?_⟩⟩
  obtain ⟨g, bo, bc, h1, h2, h3, h4⟩ := (h.2 s).2 z hz
  refine ⟨g, bo, bc, ⟨h1.1, fun t g' ht hne => ⟨(h1.2 t g' ht hne).1, fun bo' n c q hq => ?_⟩⟩, h2, h3.chg hc (fun e => hS g 112 e h1.1 h3.ty), h4.chg hc (fun k hk e => hS k 5 e (h4.from_base k hk).1 (h4.ty k hk))⟩
  obtain ⟨z', bo2, bc2, _, k1, k2, _⟩ := h.at ht
  have e2 := hc.cell k2.c0 (fun e => hS g' 112 e k1.1 k2.ty)
  rw [e2] at hq
  cases hq
  exact (h1.2 t g' ht hne).2 _ _ _ q k2.c0
/-- Where the kept files lay: a later row is none of theirs. -/
theorem Kept.below {w w' : World} {base : Nat} {D : DataW Unit} {K : ByteArray → Option Nat} {B : ByteArray → List UInt8} {S : Nat → Prop} (h : Kept w base D K B) (hc : Chg w w' S) (hS : ∀ k t, S k → base ≤ k → Ty w k t → False) : ∀ t g', at? D t (some g') → g' < w.heap.size ∧ ∀ bo' n c q, w'.cell? ⟨g', 0, none⟩ = some (.slice bo' n c) → blk bo' = some q → q < w.heap.size := by
  intro t g' ht
  obtain ⟨z', bo2, bc2, _, k1, k2, k3⟩ := h.at ht
  refine ⟨k2.lt, fun bo' n c q hq hb => ?_⟩
  have e2 := hc.cell k2.c0 (fun e => hS g' 112 e k1.1 k2.ty)
  rw [e2] at hq
  cases hq
  exact (k3.from_base q hb).2
theorem Kept.no (w : World) (base : Nat) (B : ByteArray → List UInt8) : Kept w base (.map []) (fun _ => none) B :=
  ⟨fun kl d hd => (by
    have h1 := hd .nil
    have h2 := hd (.agg [])
    rw [← h1] at h2
    cases h2), fun s => ⟨fun _ => at_none s, fun z hz => (by cases hz)⟩⟩
theorem Kept.put {w : World} {base : Nat} {D : DataW Unit} {K : ByteArray → Option Nat} {B : ByteArray → List UInt8} (h : Kept w base D K B) {w0 : World} {m n : Nat} (hm : Mp w0 m n D) (s : ByteArray) (g z : Nat) {bo : Option Addr} {bc : Nat} (hg : base ≤ g) (hf : Fl w g bo z bc z true true) (hb : Ow w base 5 bo z bc ((B s).take z)) (hal : Lone w D s g bo) :
    Kept w base (D.put (.string s.data.toList) (.lit (.int .i64 g))) (fun x => if x = s then some z else K x) B := by
  have hbk : ∀ t g', t ≠ s → at? (D.put (.string s.data.toList) (.lit (.int .i64 g))) t (some g') → at? D t (some g') := fun t g' hne ht => by
    unfold at? at *
    rwa [Maps.atKey_put_other (fun h9 => hne (str_inj h9))] at ht
  have hsame : ∀ g', at? (D.put (.string s.data.toList) (.lit (.int .i64 g))) s (some g') → g' = g := fun g' ht => by
    unfold at? at ht
    rw [Maps.atKey_put_same hm.isMap (show WideAt.IsKeyLit (.string _) from trivial)] at ht
    have : (g : Int) = g' := by simpa using ht
    omega
  refine ⟨fun kl d hd => ?_, fun t => ?_⟩
  · by_cases e : kl = .string s.data.toList
    · subst e
      exact ⟨g, by rw [← hd .nil, Maps.atKey_put_same hm.isMap (show WideAt.IsKeyLit (.string _) from trivial)]⟩
    · exact h.1 kl d (fun zd => by rw [← hd zd, Maps.atKey_put_other e])
  by_cases e : t = s
  · subst e
    refine ⟨fun h9 => by simp at h9, fun z' h9 => ?_⟩
    simp only [if_true] at h9
    cases h9
    refine ⟨g, bo, bc, ⟨hg, fun t' g' ht hne => hal t' g' (hbk t' g' hne ht) hne⟩, ?_, hf, hb⟩
    cases hK : K t with
    | none => simpa using at_put hm t t g none ((h.2 t).1 hK)
    | some z' =>
      obtain ⟨g', _, _, _, h2, _⟩ := (h.2 t).2 z' hK
      simpa using at_put hm t t g (some g') h2
  · refine ⟨fun h9 => ?_, fun z' h9 => ?_⟩
    · simp only [e, if_false] at h9
      simpa [e] using at_put hm s t g none ((h.2 t).1 h9)
    · simp only [e, if_false] at h9
      obtain ⟨g', bo', bc', h1, h2, h3⟩ := (h.2 t).2 z' h9
      refine ⟨g', bo', bc', ⟨h1.1, fun t' g2 ht hne => ?_⟩, by simpa [e] using at_put hm s t g (some g') h2, h3⟩
      by_cases e2 : t' = s
      · subst e2
        obtain rfl := hsame g2 ht
        have ha := hal t g' h2 e
        refine ⟨fun e3 => ha.1 e3.symm, fun bo2 n c q hq hbq e4 => ?_⟩
        rw [hf.c0] at hq
        cases hq
        exact ha.2 _ _ _ q h3.1.c0 e4 hbq
      · exact h1.2 t' g2 (hbk t' g2 e2 ht) hne
end Go.Proofs.Ytgkeflgfnagnjaa
