/-
  Append of a file that is there, and where its row lies then.
-/
import Derived.Test.YthkbakaodbceiaaI4
import Derived.Deep.AppendLies
import Derived.Deep.DeepAppendRoom
namespace Go.Proofs.Ythkbakaodbceiaa
open Go.RowKit
set_option linter.unusedVariables false

/-- A row lies where it lay, or is new. -/
def Lies (w : World) (ao ao' : Option Addr) : Prop := ∀ q, blk ao' = some q → blk ao = some q ∨ w.heap.size ≤ q

section
variable {P : Program}
/-- 'append(s, x...)' as one step of a region that draws its order; where the row lies. -/
theorem step_append_ls {ops : Array Oper} {o : Oper} {a : Act} {w : World} {K : Act → World → Prop} {Q : Exit → Act → World → Prop} {E : Prop} (hgd : o.guard = none) (s x : Operand) (t : TypeId)
    (ho : o.op = .call { callee := .builtin .append, args := #[s, x], argTypes := #[t, t] })
    (base : Nat) (e : TypeId) (ht : P.underlying t = some (.slice e)) (hinfo : (P.info? e).map (fun i => (i.zero, i.size, i.bytes)) = some (some (.int .u8 0), 1, 1))
    {ao : Option Addr} {n cap : Nat} {l : List UInt8} (hs : a.eval s = .slice ao n cap) (hown : Ow w base e ao n cap l)
    {xo : Option Addr} {m c : Nat} {k : List UInt8} (hx : a.eval x = .slice xo m c) (hb : Bs w xo m c k)
    (hsum : n + m ≤ 140737488355328) (hbase : base ≤ w.heap.size) (N : Nat) (lk : List UInt8) (hN : n + m = N) (hlk : l ++ k = lk)
    (h : ∀ ao' cap' w', Ow w' base e ao' N cap' lk → w.grownBy w' (blk ao) → Lies w ao ao' → K (a.put o.dst (.slice ao' N cap')) w') :
    if Region.wanted o (yielded ops a.tmps) = true then Oper.wp P o a w K Q else E := by
  have hw : Region.wanted o (yielded ops a.tmps) = true := by simp [Region.wanted, hgd]
  rw [if_pos hw]
  subst hN hlk
  obtain ⟨i, hi, hz, hz1, hz2⟩ := info_parts hinfo
  cases xo with
  | none =>
    obtain rfl := hb.nil rfl
    obtain rfl : m = 0 := Nat.le_zero.1 hb.room
    obtain rfl : k = [] := List.eq_nil_of_length_eq_zero hb.len
    have hrun := run_append_owned_none (P := P) (w := w) base t o.type e i 1 ht hi _ n _ hown.row
    unfold Oper.wp
    simp [execOp, ho, resolve, invoke, builtin, hs, hx, hrun, Result.andThen]
    have h2 : K (a.put o.dst (.slice ao n cap)) w := by
      have := h ao cap w (by simpa using hown) (grown_refl _ _) (fun q hq => .inl hq)
      simpa using this
    exact h2
  | some ad =>
    by_cases hm : m = 0
    · subst hm
      obtain rfl : k = [] := List.eq_nil_of_length_eq_zero hb.len
      cases ao with
      | none =>
        refine wp_append_own w s x t ho base e i (.int .u8 0) 1 1 ht hi hz hz1 hz2 rfl (by decide) _ n _ hs hown.row ad 0 c [] hx (by simp) (by simp) (by simp) (by unfold maxLen; omega) (by omega) hbase ?_
        intro v' w' hown' hgrow hiff
        obtain rfl : v' = .slice none 0 0 := by
          refine hiff.2 ⟨?_, rfl⟩
          rcases hown.row.2 with ⟨h4, _⟩ | ⟨g, c, cs, h4, _⟩
          · exact h4
          · cases h4
        have hn0 : n = 0 := by
          rcases hown.row.2 with ⟨h4, h5⟩ | ⟨g, c, cs, h4, _⟩
          · exact h5
          · cases h4
        subst hn0
        obtain rfl : l = [] := List.eq_nil_of_length_eq_zero hown.len
        have := h none 0 w' (Ow.nil _ _ _) hgrow (fun q hq => by cases hq)
        simpa using this
      | some g0 =>
        obtain ⟨g, rfl⟩ : ∃ g, g0 = ⟨g, 0, none⟩ := by
          rcases hown.row.2 with ⟨h4, _⟩ | ⟨g, c, cs, h4, _⟩
          · cases h4
          · cases h4; exact ⟨g, rfl⟩
        have hnc := hown.shows.room
        refine wp_append_own_spare w s x t ho base e i 1 ht hi hz1 g n cap _ hs hown.row ad 0 c [] hx (by simp) (by simp) (by simp) (by omega) ?_
        intro w' h2 h3
        exact h _ cap w' ⟨by simp [hown.len], by simpa using h2⟩ h3 (fun q hq => .inl hq)
    · refine wp_append_lies w s x t ho base e i (.int .u8 0) 1 1 ht hi hz hz1 hz2 rfl (by decide) _ n _ hs hown.row ad m c (k.map bv) hx (by simp [hb.len]) (hb.cells ad rfl) (bv_one k) (by omega) (by unfold maxLen; omega) (by omega) hbase _ rfl ?_
      intro g cap' w' hown' hgrow hl hlt
      rw [← List.map_append] at hown'
      refine h _ cap' w' ⟨by simp [hown.len, hb.len], hown'⟩ (by rw [blk_own] at hgrow; exact hgrow) (fun q hq => ?_)
      cases hq
      rw [blk_own] at hl
      rcases hl with e | e
      · exact .inl e
      · exact .inr (by simp only; omega)
end

theorem Bs.idle {w w' : World} {ao : Option Addr} {n cap : Nat} {l : List UInt8} (h : Bs w ao n cap l) (hn : n = 0) : Bs w' ao n cap l := by
  subst hn
  obtain rfl : l = [] := List.eq_nil_of_length_eq_zero h.len
  exact ⟨rfl, h.room, h.top, h.nil, fun a ha j u hu => by simp at hu⟩

section
variable {w w' : World} {b m : Nat} {fs : List (Int × Int)} {st : Int} {n : Nat} {D : DataW Unit}

set_option maxRecDepth 100000 in
set_option maxHeartbeats 2000000 in
theorem append_gen (s : ByteArray) (g base : Nat) (hbase : base ≤ w.heap.size) (h : Ds w b m fs st n D) (h0 : 0 ≤ st) (h1 : st < 4611686018427387904) (hs : nameB s = true) (hg : at? D s (some g)) {bo : Option Addr} {bn bc : Nat} {la : Int} {nl : Bool} (hf : Fl w g bo bn bc la true nl) (hne : g ≠ b) (l : List UInt8) (ho : Ow w base 5 bo bn bc l)
    (xo : Option Addr) (k c : Nat) (x : List UInt8) (hx : Bs w xo k c x) (hxp : ∀ a, xo = some a → k = 0 ∨ a.block ≠ b) (hbb : blk bo ≠ some b) (hbg : blk bo ≠ some g) (hsum : bn + k ≤ 16777216) (j : Nat) (hj : (stepR fs (k : Int)).1 = j) (hjk : j ≤ k) :
    Calls Try.prog 17 #[.pointer (some ⟨b, 0, none⟩), .string s, .slice xo k c] w fun e w' => e = .returned (.int .i64 (stepR fs (k : Int)).2) ∧ ∃ bo' bc', Fl w' g bo' (bn + j) bc' la true nl ∧ Ow w' base 5 bo' (bn + j) bc' (l ++ x.take j) ∧ Lies w bo bo' ∧ Ds w' b m fs.tail (st + 1) n D ∧ Chg w w' (fun k => k = b ∨ k = g ∨ blk bo = some k) := by
  have hfi := find_ds s g h hs hg hf
  have hst := step_ds (k : Int) h h0 h1
  rw [hj] at hst
  have k0 := hf.c0
  generalize (stepR fs (k : Int)).2 = cd at *
  have hlen := hx.len
  have hroom := hx.room
  have htop := hx.top
  unfold maxLen at htop
  have d1 : decide ((16777216 : Int) - (bn : Int) < (k : Int)) = false := by simp; omega
  clear hj h hs hg
  cases xo with
  | none =>
    obtain rfl := hx.nil rfl
    obtain rfl : k = 0 := by omega
    obtain rfl : j = 0 := by omega
    go_enter Try.func17, Try.ntmps17
    go_wp2_with fail
    refine hfi.mono ?_
    clear hfi
    rintro e w1 ⟨rfl, rfl⟩
    go_wp2_with fail
    refine hst.mono ?_
    clear hst
    rintro e w2 ⟨rfl, hD2, hc2⟩
    have hf2 := hf.chg hc2 hne
    have ho2 := ho.kept hc2.row (by cases hk : blk bo with | none => exact .inl rfl | some q => right; rw [hk] at hbb; exact hbb)
    have hx2 := (hx.kept hc2.row (fun a e => by cases e)).take 0 hjk
    have hs2 := hc2.size
    have hC2 := hc2
    clear k0 hx ho hf hc2
    have k0 := hf2.c0
    have f0 := hf2.fz 0
    go_wp2_with fail
    have hod := ho2.grown (grown_drew w2 none)
    have hxd := hx2.grown (grown_drew w2 none)
    have kd : w2.drew.cell? ⟨g, 0, none⟩ = some (.slice bo bn bc) := k0
    have hgl := hf2.lt
    have hbd : base ≤ w2.drew.heap.size := Nat.le_trans hbase hs2
    have hsd : w2.drew.heap.size = w2.heap.size := rfl
    go_region_law (refine step_append_ls (by rfl) (.tmp 39) (.tmp 42) 38 (by rfl) base 5 Try.underlying38 info5 (by rfl) hod (by rfl) hxd (by omega) hbd (bn + 0) (l ++ x.take 0) rfl rfl ?_; intro bo' bc' w3 ho3 hg3 hli; have hg3' : w2.drew.grownBy w3 (blk bo) := hg3; have q0 := hg3'.cell kd (fun e => hbg e.symm); have q1 : w3.frozen? ⟨g, 0, none⟩ = false := (World.frozen?_of_block (w := w2) (a := ⟨g, 0, none⟩) (hg3'.block g hgl (fun e => hbg e.symm))).trans f0)
    have hcd := chg_grown (grown_drew w2 none)
    have hc3 := chg_grown hg3'
    have hgm := Ne.symm (hD2.mp.row hf2.ty)
    have hD3 := (hD2.chg hcd (by simp) (by simp) (fun k e => by cases e)).chg hc3 hbb (fun e => (hD2.mp.row (ho2.ty m e)) rfl) (fun k e hk => (hod.ty k e).ne hk (by decide) rfl)
    have hf3 := (hf2.chg hcd (by simp)).chg hc3 hbg
    have hc4 := setCell_chg w3 g 0 (.slice bo' (bn + 0) bc')
    have hD4 := hD3.chg hc4 (fun e => hne e.symm) (fun e => hgm e) (fun k e hk => by subst e; exact hf3.ty.ne hk (by decide) rfl)
    have hf4 := hf3.bytes bo' (bn + 0) bc'
    have ho4 := ho3.kept hc4.row (by cases hq : blk bo' with | none => exact .inl rfl | some q => right; intro e; cases e; exact (ho3.ty g hq).ne hf3.ty (by decide) rfl)
    have hC := ((hC2.mono (fun k _ e => Or.inl e)).trans ((hcd.mono (fun k _ e => by cases e)).trans (hc3.mono (fun k _ e => Or.inr (Or.inr e))))).trans (hc4.mono (fun k _ e => Or.inr (Or.inl e)))
    have hL : Lies w1 bo bo' := fun q hq => (hli q hq).imp id (fun e => Nat.le_trans hs2 e)
    clear hcd hc3 hD3 hf3 hc4 ho3 hg3 hg3' hod hxd kd hx2 ho2 hf2 hD2 hC2 hli
    go_wp2
    go_ret
    exact ⟨rfl, bo', bc', hf4, ho4, hL, hD4, hC⟩
  | some xa =>
    have hxb := hxp _ rfl
    go_enter Try.func17, Try.ntmps17
    go_wp2_with fail
    refine hfi.mono ?_
    clear hfi
    rintro e w1 ⟨rfl, rfl⟩
    go_wp2_with fail
    refine hst.mono ?_
    clear hst
    rintro e w2 ⟨rfl, hD2, hc2⟩
    have hf2 := hf.chg hc2 hne
    have ho2 := ho.kept hc2.row (by cases hk : blk bo with | none => exact .inl rfl | some q => right; rw [hk] at hbb; exact hbb)
    have hx2 := (show Bs w2 _ _ _ x from by rcases hxb with h9 | h9; exact Bs.idle hx h9; exact hx.kept hc2.row (fun a e => by cases e; simpa using h9)).take j hjk
    have hs2 := hc2.size
    have hC2 := hc2
    clear k0 hx ho hf hc2
    have k0 := hf2.c0
    have f0 := hf2.fz 0
    have b1 : (0 : Int) ≤ (j : Int) := by omega
    have b2 : (j : Int) ≤ (c : Int) := by omega
    go_wp2_with fail
    have hod := ho2.grown (grown_drew w2 none)
    have hxd := hx2.grown (grown_drew w2 none)
    have kd : w2.drew.cell? ⟨g, 0, none⟩ = some (.slice bo bn bc) := k0
    have hgl := hf2.lt
    have hbd : base ≤ w2.drew.heap.size := Nat.le_trans hbase hs2
    have hsd : w2.drew.heap.size = w2.heap.size := rfl
    go_region_law (refine step_append_ls (by rfl) (.tmp 39) (.tmp 42) 38 (by rfl) base 5 Try.underlying38 info5 (by rfl) hod (by rfl) hxd (by omega) hbd (bn + j) (l ++ x.take j) rfl rfl ?_; intro bo' bc' w3 ho3 hg3 hli; have hg3' : w2.drew.grownBy w3 (blk bo) := hg3; have q0 := hg3'.cell kd (fun e => hbg e.symm); have q1 : w3.frozen? ⟨g, 0, none⟩ = false := (World.frozen?_of_block (w := w2) (a := ⟨g, 0, none⟩) (hg3'.block g hgl (fun e => hbg e.symm))).trans f0)
    have hcd := chg_grown (grown_drew w2 none)
    have hc3 := chg_grown hg3'
    have hgm := Ne.symm (hD2.mp.row hf2.ty)
    have hD3 := (hD2.chg hcd (by simp) (by simp) (fun k e => by cases e)).chg hc3 hbb (fun e => (hD2.mp.row (ho2.ty m e)) rfl) (fun k e hk => (hod.ty k e).ne hk (by decide) rfl)
    have hf3 := (hf2.chg hcd (by simp)).chg hc3 hbg
    have hc4 := setCell_chg w3 g 0 (.slice bo' (bn + j) bc')
    have hD4 := hD3.chg hc4 (fun e => hne e.symm) (fun e => hgm e) (fun k e hk => by subst e; exact hf3.ty.ne hk (by decide) rfl)
    have hf4 := hf3.bytes bo' (bn + j) bc'
    have ho4 := ho3.kept hc4.row (by cases hq : blk bo' with | none => exact .inl rfl | some q => right; intro e; cases e; exact (ho3.ty g hq).ne hf3.ty (by decide) rfl)
    have hC := ((hC2.mono (fun k _ e => Or.inl e)).trans ((hcd.mono (fun k _ e => by cases e)).trans (hc3.mono (fun k _ e => Or.inr (Or.inr e))))).trans (hc4.mono (fun k _ e => Or.inr (Or.inl e)))
    have hL : Lies w1 bo bo' := fun q hq => (hli q hq).imp id (fun e => Nat.le_trans hs2 e)
    clear hcd hc3 hD3 hf3 hc4 ho3 hg3 hg3' hod hxd kd hx2 ho2 hf2 hD2 hC2 hli
    go_wp2
    go_ret
    exact ⟨rfl, bo', bc', hf4, ho4, hL, hD4, hC⟩
end
end Go.Proofs.Ythkbakaodbceiaa
