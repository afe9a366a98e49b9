/-
  stops: All's closure as an iterator that turns memory of its own.
-/
import Derived.Test.YtgkeflgfnagnjaaYB
import Derived.Shelf.RegionOpen
namespace Go.Proofs.Ytgkeflgfnagnjaa
open Go.RowKit Go.Shelf
set_option linter.unusedVariables false
set_option maxRecDepth 100000
attribute [local go_sem] Oper.semAt_some run_store_fn

theorem cloneI_any (w : World) (ao : Option Addr) (n cap : Nat) (l : List Int) (hb : Vs w ao n cap (l.map iv)) (hsz : n ≤ 90000) :
    Calls Try.prog 51 #[.slice ao n cap] w fun e w' => ∃ ao' cap', e = .returned (.slice ao' n cap') ∧ Vo w' w.heap.size 3 ao' n cap' (l.map iv) ∧ w.grownBy w' none := by
  have q23 : ∀ (w : World) (a : Option Addr) (n c n' c' : Nat), (binOp .eql 23 (.slice a n c) (.slice none n' c')).run Try.prog w = .ok (.bool a.isNone) w := fun w a n c n' c' => Lib.run_eql_slice_nil w _ _ a n c n' c' Try.underlying23
  cases ao with
  | none =>
    obtain rfl := hb.nil rfl
    obtain rfl : n = 0 := Nat.le_zero.1 hb.room
    obtain rfl : l = [] := by have := hb.len; simpa using this
    go_enter Try.func51, Try.ntmps51
    go_wp2
    go_ret
    exact ⟨none, 0, rfl, Vo.nil _ _ _, grown_refl _ _⟩
  | some a =>
    have hg0 := alloc_grown w (.cells #[] 3)
    have ho0 := Vo.empty w w.heap.size 3 (Nat.le_refl _)
    have hb0 := hb.grown hg0
    go_enter Try.func51, Try.ntmps51
    go_wp2_with (at_builtin; (refine wpList_append_vs _ rfl _ _ 23 rfl w.heap.size 3 (.int .i64 0) 8 Try.underlying23 info3o rfl (by decide) rfl ho0 rfl hb0 (by omega) (by simp) ?_))
    intro ao' cap' w2 ho2 hg2
    clear ho0 hb0
    have hG := grown_trans hg0 hg2 (fun k hk => Or.inr (by simp [blk] at hk; omega))
    have HO : HidO _ := ho2
    clear hg0 hg2 ho2
    go_wp2
    go_ret
    exact ⟨ao', cap', rfl, HO.out, hG⟩
/-- What is told of a stop: it is the next one, in new memory. -/
def Tst (AL : List (List Int)) (B : Nat) (pre : List Stp) (x : Stp) (W : World) : Prop := AL[pre.length]? = some x.l ∧ Is' W x.ao x.l.length x.cap x.l ∧ ∀ a, x.ao = some a → B ≤ a.block ∧ a.block < W.heap.size
theorem SaidK.bool {α : Type} {B : Nat} {J Jx : List α → World → Prop} {Kp : World → World → Prop} {xs : List α} {W W' : World} {e : Ending} (h : SaidK B J Jx Kp xs W e W') : ∃ bl, e = .returned (.bool bl) ∧ HidO ((bl = true → J xs W' ∧ Kp W W') ∧ (bl = false → Jx xs W')) := by
  rcases h with ⟨h1, h2, h3, _⟩ | ⟨h1, h2, _⟩
  · exact ⟨true, h1, ⟨fun _ => ⟨h2, h3⟩, fun e => (by cases e)⟩⟩
  · exact ⟨false, h1, ⟨fun e => (by cases e), fun _ => h2⟩⟩
section
variable {J Jx : (Nat → Prop) → List Stp → World → Prop} {B zl zy zp zg q n sc : Nat} {so : Option Addr} {U : List (Bool × Nat)} (AL : List (List Int))
set_option maxHeartbeats 8000000 in
theorem goOn_end (m : Nat) (hm : 1 ≤ m) (hJ : Steady B J)
    (hY : ∀ (T : Nat → Prop) (pre : List Stp) (x : Stp) (W1 : World), (∀ k, T k → B ≤ k ∧ k < W1.heap.size) → J T pre W1 → Tst AL B pre x W1 → YieldAt Fence.wide (m - 1) Try.prog q (stpV x) W1 (SaidK B (J T) (Jx T) (StayP (fun k => k = zl ∨ blk so = some k) T) (pre ++ [x]) W1))
    (W : World) (T : Nat → Prop) (pre : List Stp) (p : List Int) (ao : Option Addr) (cap : Nat) (h : Gs B zl zy zp zg q so n sc U W T ao cap p) (hJ0 : J T pre W) (hA : AL[pre.length]? = some p) (hp : p.length ≤ 80000) :
    Calls Try.prog 50 #[.int .i64 (n : Int), .pointer (some ⟨zl, 0, none⟩), .pointer (some ⟨zy, 0, none⟩), .pointer (some ⟨zp, 0, none⟩), .pointer (some ⟨zg, 0, none⟩)] W fun e W' => ∃ bl, e = .returned (.bool bl) ∧ GoP J Jx B zl zy zp zg q so n sc U pre p [p] bl W' := by
  have mixed : Try.prog.follows .mixedOrders = true := by kernel_rfl
  have z0 := h.lb.cell
  have y0 := h.y.cell
  have p0 := h.p.cell
  have hsh := h.r.shows
  have hcl : ∀ V, W.grownBy V none → Calls Try.prog 51 #[.slice ao p.length cap] V fun e w' => ∃ ao' cap', e = .returned (.slice ao' p.length cap') ∧ Vo w' V.heap.size 3 ao' p.length cap' (p.map iv) ∧ V.grownBy w' none := fun V hV => cloneI_any V ao p.length cap p (hsh.grown hV) (by omega)
  obtain ⟨pl, hpl⟩ : ∃ pl, p.length = pl := ⟨_, rfl⟩
  rw [hpl] at p0 hcl
  have HP : HidO (p.length = pl) := hpl
  have htop := h.us.top
  clear hpl hsh
  refine (callsIn_wide (n := m)).1 ?_
  refine callsIn_of_wp Try.func50 rfl trivial ?_
  simp only [Try.ntmps50, List.size_toArray, List.length_cons, List.length_nil, Nat.reduceAdd, Nat.reduceSub, Array.replicate_succ, Array.replicate_zero, List.push_toArray, List.append_toArray, List.nil_append, List.cons_append]
  have ef : ((n : Int) == (n : Int)) = true := by simp
  gi_wp2_with fail
  gi_region_with_o (first
    | (refine ⟨trivial, ?_⟩; gi_at_call 51; refine callsIn_wide.2 ((hcl _ (grown_drewN W 1 none)).mono ?_); rintro e w5 ⟨ao5, cap5, rfl, hV5, hg5⟩; have hgd : W.grownBy w5 none := grown_trans (grown_drewN W 1 none) hg5 (by simp); have y5 := hgd.cell y0 (by simp); have hG5 := h.grown hgd; have hJ5 := hJ _ _ _ _ _ hJ0 h.tb (Mv.grown hgd); obtain ⟨fn, tmps, assign, body, hy, hR⟩ := hY T pre ⟨ao5, cap5, p⟩ w5 (fun k hk => ⟨hG5.tb k hk, hG5.tl k hk⟩) hJ5 ⟨hA, by rw [HP.out]; exact Is'.of_vo hV5, fun a e => ⟨by have := (hV5.from_base a.block (by have e9 : ao5 = some a := e; rw [e9]; rfl)).1; have := h.bl; have h9 : (W.drewN 1).heap.size = W.heap.size := rfl; omega, (hV5.from_base a.block (by have e9 : ao5 = some a := e; rw [e9]; rfl)).2⟩⟩; simp only [stpV, HP.out] at hy)
    | (refine ⟨trivial, hR.mono ?_⟩; intro e w6 hsd; obtain ⟨bl, rfl, hsb⟩ := hsd.bool)
    | (refine hR.mono ?_; intro e w6 hsd; obtain ⟨bl, rfl, hsb⟩ := hsd.bool))
  all_goals
    clear hy hR
    have hpost : HidO (GoP J Jx B zl zy zp zg q so n sc U pre p [p] bl w6) := ⟨fun e => by
      obtain ⟨r1, r2⟩ := hsb.out.1 e
      exact ⟨T, [_], ao, cap, p, rfl, r1, hG5.stay r2.toC, List.prefix_refl _⟩, fun e => ⟨T, _, hG5.tb, hsb.out.2 e⟩⟩
    gi_wp2
    go_ret
    exact ⟨bl, rfl, hpost.out⟩
theorem allP_drop_nil {U : List (Bool × Nat)} {n : Nat} (h : U.length = n) (p : List Int) : allP (U.drop n) p = [p] := by rw [List.drop_eq_nil_of_le (by omega)]; rfl
theorem goOn_any (m : Nat) (hm : 1 ≤ m) (hJ : Steady B J) (hn5 : n ≤ 5000)
    (hY : ∀ (T : Nat → Prop) (pre : List Stp) (x : Stp) (W1 : World), (∀ k, T k → B ≤ k ∧ k < W1.heap.size) → J T pre W1 → Tst AL B pre x W1 → YieldAt Fence.wide (m - 1) Try.prog q (stpV x) W1 (SaidK B (J T) (Jx T) (StayP (fun k => k = zl ∨ blk so = some k) T) (pre ++ [x]) W1)) :
    ∀ (k i : Nat), i + k = n → ∀ (W : World) (T : Nat → Prop) (pre : List Stp) (p : List Int) (ao : Option Addr) (cap : Nat), Gs B zl zy zp zg q so n sc U W T ao cap p → J T pre W → (∀ j x, (allP (U.drop i) p)[j]? = some x → AL[pre.length + j]? = some x) → p.length ≤ 2 * i →
      Calls Try.prog 50 #[.int .i64 (i : Int), .pointer (some ⟨zl, 0, none⟩), .pointer (some ⟨zy, 0, none⟩), .pointer (some ⟨zp, 0, none⟩), .pointer (some ⟨zg, 0, none⟩)] W fun e W' => ∃ bl, e = .returned (.bool bl) ∧ GoP J Jx B zl zy zp zg q so n sc U pre p (allP (U.drop i) p) bl W'
  | 0, i, hik, W, T, pre, p, ao, cap, h, hJ0, hA, hp => by
    obtain rfl : i = n := by omega
    rw [allP_drop_nil h.us.len] at hA ⊢
    exact goOn_end AL m hm hJ hY W T pre p ao cap h hJ0 (by simpa using hA 0 p rfl) (by omega)
  | k + 1, i, hik, W, T, pre, p, ao, cap, h, hJ0, hA, hp =>
    goOn_step AL hJ i (by omega) hn5 (fun W T pre p ao cap h hJ0 hA hp => goOn_any m hm hJ hn5 hY k (i + 1) (by omega) W T pre p ao cap h hJ0 hA hp) W T pre p ao cap h hJ0 hA hp
end

set_option maxHeartbeats 4000000 in
/-- All's closure. -/
theorem sall1_priv (m : Nat) (hm : 1 ≤ m) (w : World) (zl zt : Nat) (so : Option Addr) (n sc : Nat) (U : List (Bool × Nat)) (hz : Boxed w zl 84 (.slice so n sc)) (ht : Boxed w zt 4 (.bool true)) (hU : Us w so n U) (hs : ∀ k, blk so = some k → k < w.heap.size) (hn5 : n ≤ 5000) :
    SeqPriv Fence.wide m Try.prog 49 #[.pointer (some ⟨zl, 0, none⟩), .pointer (some ⟨zt, 0, none⟩)] stpV (fun B _ => Tst (allP U []) B) (fun k => k = zl ∨ blk so = some k) (fun xs => xs.map (·.l) = allP U []) (fun _ => True) w := by
  intro l J Jx W hB hJ hJx hY h0
  have hmf : ∀ (fn : Fn) (first cap : Array Value) (w : World), (Instr.makeFunc fn first cap).run Try.prog w = .ok (.func fn first cap) w := fun _ _ _ _ => rfl
  have hzW : Boxed W zl 84 (.slice so n sc) := (hB.block zl hz.lt).trans hz
  have htW := (hB.cell (p := ⟨zt, 0, none⟩) ht.lt).trans ht.cell
  have hUW : Us W so n U := hU.stay (Stay.below (K := fun k => blk so = some k) hB hs) (fun k hk => hk)
  have hzlW : zl < W.heap.size := Nat.lt_of_lt_of_le hz.lt hB.size
  have hsW : ∀ k, blk so = some k → k < W.heap.size := fun k hk => Nat.lt_of_lt_of_le (hs k hk) hB.size
  have g1 := aGrown W (.cells #[.func (.yield l) #[] #[]] 92)
  have g2 := aGrown (W.alloc (.cells #[.func (.yield l) #[] #[]] 92)) (.cells #[.slice none 0 0] 23)
  have g3 := aGrown ((W.alloc (.cells #[.func (.yield l) #[] #[]] 92)).alloc (.cells #[.slice none 0 0] 23)) (.cells #[.func (.func 50) #[] #[.pointer (some ⟨zl, 0, none⟩), .pointer (some ⟨W.heap.size, 0, none⟩), .pointer (some ⟨W.heap.size + 1, 0, none⟩), .pointer (some ⟨W.heap.size + 1 + 1, 0, none⟩)]] 93)
  have b1 := Boxed.new W 92 (.func (.yield l) #[] #[])
  have b2 := Boxed.new (W.alloc (.cells #[.func (.yield l) #[] #[]] 92)) 23 (.slice none 0 0)
  have b3 := Boxed.new ((W.alloc (.cells #[.func (.yield l) #[] #[]] 92)).alloc (.cells #[.slice none 0 0] 23)) 93 (.func (.func 50) #[] #[.pointer (some ⟨zl, 0, none⟩), .pointer (some ⟨W.heap.size, 0, none⟩), .pointer (some ⟨W.heap.size + 1, 0, none⟩), .pointer (some ⟨W.heap.size + 1 + 1, 0, none⟩)])
  rw [World.size_alloc] at b2
  rw [World.size_alloc, World.size_alloc] at b3
  have hg3 := grown_trans (grown_trans g1 g2 (by simp)) g3 (by simp)
  have c1 := box_own b1 (grown_trans g2 g3 (by simp)) (fun r e => by cases e)
  have c2 := box_own b2 g3 (fun r e => by cases e)
  have ht3 := hg3.cell htW (by simp)
  have hz3 := box_own hzW hg3 (fun r e => by cases e)
  have hU3 := hUW.grown hg3
  have hs3 : (((W.alloc (.cells #[.func (.yield l) #[] #[]] 92)).alloc (.cells #[.slice none 0 0] 23)).alloc (.cells #[.func (.func 50) #[] #[.pointer (some ⟨zl, 0, none⟩), .pointer (some ⟨W.heap.size, 0, none⟩), .pointer (some ⟨W.heap.size + 1, 0, none⟩), .pointer (some ⟨W.heap.size + 1 + 1, 0, none⟩)]] 93)).heap.size = W.heap.size + 3 := by simp
  have k3 := b3.cell
  obtain ⟨W3, hW3⟩ : ∃ W3, ((W.alloc (.cells #[.func (.yield l) #[] #[]] 92)).alloc (.cells #[.slice none 0 0] 23)).alloc (.cells #[.func (.func 50) #[] #[.pointer (some ⟨zl, 0, none⟩), .pointer (some ⟨W.heap.size, 0, none⟩), .pointer (some ⟨W.heap.size + 1, 0, none⟩), .pointer (some ⟨W.heap.size + 1 + 1, 0, none⟩)]] 93) = W3 := ⟨_, rfl⟩
  have ht3' := ht3
  have k3' := k3
  rw [hW3] at ht3' k3'
  have hGs : Gs W.heap.size zl W.heap.size (W.heap.size + 1) (W.heap.size + 1 + 1) l so n sc U W3 (fun k => W.heap.size ≤ k ∧ k < W.heap.size + 3) none 0 [] := by
    rw [← hW3]
    exact ⟨hz3, hU3, c1, c2, Vo.nil _ _ _, b3, ⟨by omega, by omega⟩, ⟨by omega, by omega⟩, ⟨by omega, by omega⟩, (fun k hk => by cases hk), (fun k hk => hk.1), (fun k hk => by rw [hs3]; exact hk.2), hzlW, hsW, by rw [hs3]; omega⟩
  have hJ3 : J (fun k => W.heap.size ≤ k ∧ k < W.heap.size + 3) [] W3 := by
    rw [← hW3]
    exact hJ _ _ _ _ _ h0 (fun k hk => hk.elim) (Mv.chg (Chg.of_grown hg3 (fun _ => False)) (fun k _ hk => hk.elim) (fun k hk => .inr hk.1))
  have hgo := goOn_any (allP U []) m hm hJ hn5 hY n 0 (by omega) W3 _ [] [] none 0 hGs hJ3 (fun j x hx => by simpa using hx) (by simp)
  rw [List.drop_zero] at hgo
  have kW3 : W3.cell? ⟨W.heap.size + 1 + 1, 0, none⟩ = _ := hGs.g.cell
  have hfr := (hGs.g).frozen
  clear hGs hJ3 c1 c2 b1 b2 g1 g2 hz3 hU3 hs3 hY h0 g3
  show CallsIn Fence.wide m Try.prog 49 #[.func (.yield l) #[] #[], .pointer (some ⟨zl, 0, none⟩), .pointer (some ⟨zt, 0, none⟩)] W _
  refine callsIn_of_wp Try.func49 rfl trivial ?_
  simp only [Try.ntmps49, List.size_toArray, List.length_cons, List.length_nil, Nat.reduceAdd, Nat.reduceSub, Array.replicate_succ, Array.replicate_zero, List.push_toArray, List.append_toArray, List.nil_append, List.cons_append]
  gi_wp2_with fail
  refine ⟨trivial, callsIn_wide.2 (hgo.mono ?_)⟩
  rintro e W4 ⟨bl, rfl, hP⟩
  have HP : HidO _ := hP
  clear hgo hP
  gi_wp2
  go_end0
  refine ⟨⟨_, rfl⟩, ?_⟩
  cases bl with
  | true =>
    obtain ⟨T, ys, ao, cap, l', r1, r2, r3, _⟩ := HP.out.1 rfl
    exact .inl ⟨T, ys, r3.tb, r1, r2⟩
  | false =>
    obtain ⟨T, pre, r1, r2⟩ := HP.out.2 rfl
    exact .inr ⟨T, pre, r1, trivial, r2⟩
end Go.Proofs.Ytgkeflgfnagnjaa
