/-
  Append of a file that is there.
-/
import Derived.Test.YthkbakaodbceiaaE9
import Derived.Deep.RegionLaw
namespace Go.Proofs.Ythkbakaodbceiaa
open Go.RowKit
set_option linter.unusedVariables false

section
variable {P : Program}
/-- 'append(s, x...)' as one step of a region that draws its order. -/
theorem step_append_bs {ops : Array Oper} {o : Oper} {a : Act} {w : World} {K : Act → World → Prop} {Q : Exit → Act → World → Prop} {E : Prop} (hgd : o.guard = none) (s x : Operand) (t : TypeId)
    (ho : o.op = .call { callee := .builtin .append, args := #[s, x], argTypes := #[t, t] })
    (base : Nat) (e : TypeId) (ht : P.underlying t = some (.slice e)) (hinfo : (P.info? e).map (fun i => (i.zero, i.size, i.bytes)) = some (some (.int .u8 0), 1, 1))
    {ao : Option Addr} {n cap : Nat} {l : List UInt8} (hs : a.eval s = .slice ao n cap) (hown : Ow w base e ao n cap l)
    {xo : Option Addr} {m c : Nat} {k : List UInt8} (hx : a.eval x = .slice xo m c) (hb : Bs w xo m c k)
    (hsum : n + m ≤ 140737488355328) (hbase : base ≤ w.heap.size) (N : Nat) (lk : List UInt8) (hN : n + m = N) (hlk : l ++ k = lk)
    (h : ∀ ao' cap' w', Ow w' base e ao' N cap' lk → w.grownBy w' (blk ao) → K (a.put o.dst (.slice ao' N cap')) w') :
    if Region.wanted o (yielded ops a.tmps) = true then Oper.wp P o a w K Q else E := by
  have hw : Region.wanted o (yielded ops a.tmps) = true := by simp [Region.wanted, hgd]
  rw [if_pos hw]
  subst hN hlk
  obtain ⟨i, hi, hz, hz1, hz2⟩ := info_parts hinfo
  cases xo with
  | none =>
    obtain rfl := hb.nil rfl
    obtain rfl : m = 0 := Nat.le_zero.1 hb.room
    obtain rfl : k = [] := List.eq_nil_of_length_eq_zero hb.len
    have hrun := run_append_owned_none (P := P) (w := w) base t o.type e i 1 ht hi _ n _ hown.row
    unfold Oper.wp
    simp [execOp, ho, resolve, invoke, builtin, hs, hx, hrun, Result.andThen]
    have h2 : K (a.put o.dst (.slice ao n cap)) w := by
      have := h ao cap w (by simpa using hown) (grown_refl _ _)
      simpa using this
    exact h2
  | some ad =>
    refine wp_append_own w s x t ho base e i (.int .u8 0) 1 1 ht hi hz hz1 hz2 rfl (by decide) _ n _ hs hown.row ad m c (k.map bv) hx (by simp [hb.len]) (hb.cells ad rfl) (bv_one k) (by unfold maxLen; omega) (by omega) hbase ?_
    intro v' w' hown' hgrow _
    rw [← List.map_append] at hown'
    obtain ⟨ao', cap', rfl, h1⟩ := Ow.of (l := l ++ k) (by simp [hown.len, hb.len]) hown'
    exact h ao' cap' w' h1 (by rw [blk_own] at hgrow; exact hgrow)
end
theorem Chg.row {w w' : World} {b : Nat} (h : Chg w w' (fun k => k = b)) : w.grownBy w' (some b) := ⟨h.os, h.tape, h.output, h.size, fun k hk hne => h.block k hk (fun e => hne (by rw [e]))⟩
theorem chg_row {w w' : World} {b : Nat} (h : w.grownBy w' (some b)) : Chg w w' (fun k => k = b) := ⟨h.os, h.tape, h.output, h.size, fun k hk hne => h.block k hk (by simpa using hne)⟩

section
variable {w w' : World} {b m : Nat} {fs : List (Int × Int)} {st : Int} {n : Nat} {D : DataW Unit}

theorem chg_grown {row : Option Nat} (h : w.grownBy w' row) : Chg w w' (fun k => row = some k) := ⟨h.os, h.tape, h.output, h.size, fun k hk hne => h.block k hk (fun e => hne e.symm)⟩
theorem Ow.ty {base : Nat} {e : TypeId} {ao : Option Addr} {n cap : Nat} {l : List UInt8} (h : Ow w base e ao n cap l) : ∀ q, blk ao = some q → Ty w q e := by
  intro q hq
  rcases h.row.2 with ⟨h4, _⟩ | ⟨g, c, cs, h4, _, h6, _⟩
  · cases h4; cases hq
  · cases h4
    cases hq
    exact ⟨_, _, h6⟩
theorem Mp.row (h : Mp w m n D) {k : Nat} {t : TypeId} (hk : Ty w k t) : k ≠ m := by
  rintro rfl
  obtain ⟨es, clock, hb, _⟩ := h
  obtain ⟨cs, fr, e⟩ := hk
  rw [hb] at e
  cases e

set_option maxRecDepth 100000 in
set_option maxHeartbeats 2000000 in
theorem append_base (s : ByteArray) (g base : Nat) (hbase : base ≤ w.heap.size) (h : Ds w b m fs st n D) (h0 : 0 ≤ st) (h1 : st < 4611686018427387904) (hs : nameB s = true) (hg : at? D s (some g)) {bo : Option Addr} {bn bc : Nat} {la : Int} {nl : Bool} (hf : Fl w g bo bn bc la true nl) (hne : g ≠ b) (l : List UInt8) (ho : Ow w base 5 bo bn bc l)
    (xb xi k c : Nat) (x : List UInt8) (hx : Bs w (some ⟨xb, xi, none⟩) k c x) (hxb : xb ≠ b) (hbb : blk bo ≠ some b) (hbg : blk bo ≠ some g) (hsum : bn + k ≤ 16777216) (j : Nat) (hj : (stepR fs (k : Int)).1 = j) (hjk : j ≤ k) :
    Calls Try.prog 17 #[.pointer (some ⟨b, 0, none⟩), .string s, .slice (some ⟨xb, xi, none⟩) k c] w fun e w' => e = .returned (.int .i64 (stepR fs (k : Int)).2) ∧ ∃ bo' bc', Fl w' g bo' (bn + j) bc' la true nl ∧ Ow w' base 5 bo' (bn + j) bc' (l ++ x.take j) ∧ Ds w' b m fs.tail (st + 1) n D ∧ Chg w w' (fun k => k = b ∨ k = g ∨ blk bo = some k) := by
  have hfi := find_ds s g h hs hg hf
  have hst := step_ds (k : Int) h h0 h1
  rw [hj] at hst
  have k0 := hf.c0
  generalize (stepR fs (k : Int)).2 = cd at *
  have hlen := hx.len
  have hroom := hx.room
  have htop := hx.top
  unfold maxLen at htop
  have d1 : decide ((16777216 : Int) - (bn : Int) < (k : Int)) = false := by simp; omega
  clear hj h hs hg
  go_enter Try.func17, Try.ntmps17
  go_wp2_with fail
  refine hfi.mono ?_
  clear hfi
  rintro e w1 ⟨rfl, rfl⟩
  go_wp2_with fail
  refine hst.mono ?_
  clear hst
  rintro e w2 ⟨rfl, hD2, hc2⟩
  have hf2 := hf.chg hc2 hne
  have ho2 := ho.kept hc2.row (by cases hk : blk bo with | none => exact .inl rfl | some q => right; rw [hk] at hbb; exact hbb)
  have hx2 := (hx.kept hc2.row (fun a e => by cases e; simpa using hxb)).take j hjk
  have hs2 := hc2.size
  have hC2 := hc2
  clear k0 hx ho hf hc2
  have k0 := hf2.c0
  have f0 := hf2.fz 0
  have b1 : (0 : Int) ≤ (j : Int) := by omega
  have b2 : (j : Int) ≤ (c : Int) := by omega
  go_wp2_with fail
  have hod := ho2.grown (grown_drew w2 none)
  have hxd := hx2.grown (grown_drew w2 none)
  have kd : w2.drew.cell? ⟨g, 0, none⟩ = some (.slice bo bn bc) := k0
  have hgl := hf2.lt
  have hbd : base ≤ w2.drew.heap.size := Nat.le_trans hbase hs2
  go_region_law (refine step_append_bs (by rfl) (.tmp 39) (.tmp 42) 38 (by rfl) base 5 Try.underlying38 info5 (by rfl) hod (by rfl) hxd (by omega) hbd (bn + j) (l ++ x.take j) rfl rfl ?_; intro bo' bc' w3 ho3 hg3; have hg3' : w2.drew.grownBy w3 (blk bo) := hg3; have q0 := hg3'.cell kd (fun e => hbg e.symm); have q1 : w3.frozen? ⟨g, 0, none⟩ = false := (World.frozen?_of_block (w := w2) (a := ⟨g, 0, none⟩) (hg3'.block g hgl (fun e => hbg e.symm))).trans f0)
  have hcd := chg_grown (grown_drew w2 none)
  have hc3 := chg_grown hg3'
  have hgm := Ne.symm (hD2.mp.row hf2.ty)
  have hD3 := (hD2.chg hcd (by simp) (by simp) (fun k e => by cases e)).chg hc3 hbb (fun e => (hD2.mp.row (ho2.ty m e)) rfl) (fun k e hk => (hod.ty k e).ne hk (by decide) rfl)
  have hf3 := (hf2.chg hcd (by simp)).chg hc3 hbg
  have hc4 := setCell_chg w3 g 0 (.slice bo' (bn + j) bc')
  have hD4 := hD3.chg hc4 (fun e => hne e.symm) (fun e => hgm e) (fun k e hk => by subst e; exact hf3.ty.ne hk (by decide) rfl)
  have hf4 := hf3.bytes bo' (bn + j) bc'
  have ho4 := ho3.kept hc4.row (by cases hq : blk bo' with | none => exact .inl rfl | some q => right; intro e; cases e; exact (ho3.ty g hq).ne hf3.ty (by decide) rfl)
  have hC := ((hC2.mono (fun k _ e => Or.inl e)).trans ((hcd.mono (fun k _ e => by cases e)).trans (hc3.mono (fun k _ e => Or.inr (Or.inr e))))).trans (hc4.mono (fun k _ e => Or.inr (Or.inl e)))
  clear hcd hc3 hD3 hf3 hc4 ho3 hg3 hg3' hod hxd kd hx2 ho2 hf2 hD2 hC2
  go_wp2
  go_ret
  exact ⟨rfl, bo', bc', hf4, ho4, hD4, hC⟩
theorem append_at (s : ByteArray) (g : Nat) (h : Ds w b m fs st n D) (h0 : 0 ≤ st) (h1 : st < 4611686018427387904) (hs : nameB s = true) (hg : at? D s (some g)) {bo : Option Addr} {bn bc : Nat} {la : Int} {nl : Bool} (hf : Fl w g bo bn bc la true nl) (hne : g ≠ b) (l : List UInt8) (ho : Ow w 0 5 bo bn bc l)
    (xb xi k c : Nat) (x : List UInt8) (hx : Bs w (some ⟨xb, xi, none⟩) k c x) (hxb : xb ≠ b) (hbb : blk bo ≠ some b) (hbg : blk bo ≠ some g) (hsum : bn + k ≤ 16777216) (j : Nat) (hj : (stepR fs (k : Int)).1 = j) (hjk : j ≤ k) :
    Calls Try.prog 17 #[.pointer (some ⟨b, 0, none⟩), .string s, .slice (some ⟨xb, xi, none⟩) k c] w fun e w' => e = .returned (.int .i64 (stepR fs (k : Int)).2) ∧ ∃ bo' bc', Fl w' g bo' (bn + j) bc' la true nl ∧ Ow w' 0 5 bo' (bn + j) bc' (l ++ x.take j) ∧ Ds w' b m fs.tail (st + 1) n D ∧ Chg w w' (fun k => k = b ∨ k = g ∨ blk bo = some k) :=
  append_base s g 0 (Nat.zero_le _) h h0 h1 hs hg hf hne l ho xb xi k c x hx hxb hbb hbg hsum j hj hjk
end
end Go.Proofs.Ythkbakaodbceiaa
