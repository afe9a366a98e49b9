/-
  bytes.Equal; two files held against each other.
-/
import Derived.Test.YtlghcboenkglnaaGreatDoorZbg
import Derived.Deep.QuietTactic
import Derived.BigQuiet
import Derived.Deep.AppendLies
import Derived.Deep.DeepAppendRoom
namespace Go.Proofs.YtlghcboenkglnaaGreatDoor.Dsk
open Go.Proofs.YtlghcboenkglnaaGreatDoor
open Go.RowKit
set_option linter.unusedVariables false
set_option linter.unusedSectionVars false
variable [FO : Inhabited (Nat → Prop)]

end Go.Proofs.YtlghcboenkglnaaGreatDoor.Dsk

/-
  maps.EqualFunc over two maps of files; Same.
-/
namespace Go.Proofs.YtlghcboenkglnaaGreatDoor.Dsk
open Go.Proofs.YtlghcboenkglnaaGreatDoor
open Go.RowKit Go.Maps Go.WideMaps
set_option linter.unusedVariables false
set_option linter.unusedSectionVars false
variable [FO : Inhabited (Nat → Prop)]

section
variable {w w' : World} {m1 m2 n1 n2 : Nat} {D1 D2 : DataW Unit}

end
end Go.Proofs.YtlghcboenkglnaaGreatDoor.Dsk

/-
  Same of two disks that are there; a copy is the same.
-/
namespace Go.Proofs.YtlghcboenkglnaaGreatDoor.Dsk
open Go.Proofs.YtlghcboenkglnaaGreatDoor
open Go.RowKit Go.Maps Go.WideMaps
set_option linter.unusedVariables false
set_option linter.unusedSectionVars false
variable [FO : Inhabited (Nat → Prop)]

theorem has_mem {es : List (Lit × DataW Unit)} {k : Lit} (h : Maps.has (.map es) k = true) : k ∈ es.map (·.1) := by
  rw [has_eq] at h
  obtain ⟨p, hp, hs⟩ := List.any_eq_true.1 h
  rw [← WideAt.sameKey_eq hs]
  exact List.mem_map.2 ⟨p, hp, rfl⟩
theorem mem_has {es : List (Lit × DataW Unit)} (hkeys : ∀ p ∈ es, WideAt.IsKeyLit p.1) {k : Lit} (h : k ∈ es.map (·.1)) : Maps.has (.map es) k = true := by
  obtain ⟨p, hp, rfl⟩ := List.mem_map.1 h
  exact List.any_eq_true.2 ⟨p, hp, WideAt.sameKey_self (hkeys p hp)⟩
section
variable {w w' : World} {b m b' m' : Nat} {fs fs' : List (Int × Int)} {st st' : Int} {n n' : Nat} {D D' : DataW Unit}

end
end Go.Proofs.YtlghcboenkglnaaGreatDoor.Dsk

/-
  Steps; Right.
-/
namespace Go.Proofs.YtlghcboenkglnaaGreatDoor.Dsk
open Go.Proofs.YtlghcboenkglnaaGreatDoor
open Go.RowKit
set_option linter.unusedVariables false
set_option linter.unusedSectionVars false
variable [FO : Inhabited (Nat → Prop)]

section
variable {w w' : World} {b m : Nat} {fs : List (Int × Int)} {st : Int} {n : Nat} {D : DataW Unit}

end

end Go.Proofs.YtlghcboenkglnaaGreatDoor.Dsk

/-
  Append of a file that is there, and where its row lies then.
-/
namespace Go.Proofs.YtlghcboenkglnaaGreatDoor.Dsk
open Go.Proofs.YtlghcboenkglnaaGreatDoor
open Go.RowKit
set_option linter.unusedVariables false
set_option linter.unusedSectionVars false
variable [FO : Inhabited (Nat → Prop)]

/-- A row lies where it lay, or is new. -/
def Lies (w : World) (ao ao' : Option Addr) : Prop := ∀ q, blk ao' = some q → blk ao = some q ∨ w.heap.size ≤ q
section
variable {P : Program}
/-- 'append(s, x...)' as one step of a region that draws its order; where the row lies. -/
theorem step_append_ls {ops : Array Oper} {o : Oper} {a : Act} {w : World} {K : Act → World → Prop} {Q : Exit → Act → World → Prop} {E : Prop} (hgd : o.guard = none) (s x : Operand) (t : TypeId)
    (ho : o.op = .call { callee := .builtin .append, args := #[s, x], argTypes := #[t, t] })
    (base : Nat) (e : TypeId) (ht : P.underlying t = some (.slice e)) (hinfo : (P.info? e).map (fun i => (i.zero, i.size, i.bytes)) = some (some (.int .u8 0), 1, 1))
    {ao : Option Addr} {n cap : Nat} {l : List UInt8} (hs : a.eval s = .slice ao n cap) (hown : Ow w base e ao n cap l)
    {xo : Option Addr} {m c : Nat} {k : List UInt8} (hx : a.eval x = .slice xo m c) (hb : Bs w xo m c k)
    (hsum : n + m ≤ 140737488355328) (hbase : base ≤ w.heap.size) (N : Nat) (lk : List UInt8) (hN : n + m = N) (hlk : l ++ k = lk)
    (h : ∀ ao' cap' w', Ow w' base e ao' N cap' lk → w.grownBy w' (blk ao) → Lies w ao ao' → K (a.put o.dst (.slice ao' N cap')) w') :
    if Region.wanted o (yielded ops a.tmps) = true then Oper.wp P o a w K Q else E := by
  have hw : Region.wanted o (yielded ops a.tmps) = true := by simp [Region.wanted, hgd]
  rw [if_pos hw]
  subst hN hlk
  obtain ⟨i, hi, hz, hz1, hz2⟩ := info_parts hinfo
  cases xo with
  | none =>
    obtain rfl := hb.nil rfl
    obtain rfl : m = 0 := Nat.le_zero.1 hb.room
    obtain rfl : k = [] := List.eq_nil_of_length_eq_zero hb.len
    have hrun := run_append_owned_none (P := P) (w := w) base t o.type e i 1 ht hi _ n _ hown.row
    unfold Oper.wp
    simp [execOp, ho, resolve, invoke, builtin, hs, hx, hrun, Result.andThen]
    have h2 : K (a.put o.dst (.slice ao n cap)) w := by
      have := h ao cap w (by simpa using hown) (grown_refl _ _) (fun q hq => .inl hq)
      simpa using this
    exact h2
  | some ad =>
    by_cases hm : m = 0
    · subst hm
      obtain rfl : k = [] := List.eq_nil_of_length_eq_zero hb.len
      cases ao with
      | none =>
        refine wp_append_own w s x t ho base e i (.int .u8 0) 1 1 ht hi hz hz1 hz2 rfl (by decide) _ n _ hs hown.row ad 0 c [] hx (by simp) (by simp) (by simp) (by unfold maxLen; omega) (by omega) hbase ?_
        intro v' w' hown' hgrow hiff
        obtain rfl : v' = .slice none 0 0 := by
          refine hiff.2 ⟨?_, rfl⟩
          rcases hown.row.2 with ⟨h4, _⟩ | ⟨g, c, cs, h4, _⟩
          · exact h4
          · cases h4
        have hn0 : n = 0 := by
          rcases hown.row.2 with ⟨h4, h5⟩ | ⟨g, c, cs, h4, _⟩
          · exact h5
          · cases h4
        subst hn0
        obtain rfl : l = [] := List.eq_nil_of_length_eq_zero hown.len
        have := h none 0 w' (Ow.nil _ _ _) hgrow (fun q hq => by cases hq)
        simpa using this
      | some g0 =>
        obtain ⟨g, rfl⟩ : ∃ g, g0 = ⟨g, 0, none⟩ := by
          rcases hown.row.2 with ⟨h4, _⟩ | ⟨g, c, cs, h4, _⟩
          · cases h4
          · cases h4; exact ⟨g, rfl⟩
        have hnc := hown.shows.room
        refine wp_append_own_spare w s x t ho base e i 1 ht hi hz1 g n cap _ hs hown.row ad 0 c [] hx (by simp) (by simp) (by simp) (by omega) ?_
        intro w' h2 h3
        exact h _ cap w' ⟨by simp [hown.len], by simpa using h2⟩ h3 (fun q hq => .inl hq)
    · refine wp_append_lies w s x t ho base e i (.int .u8 0) 1 1 ht hi hz hz1 hz2 rfl (by decide) _ n _ hs hown.row ad m c (k.map bv) hx (by simp [hb.len]) (hb.cells ad rfl) (bv_one k) (by omega) (by unfold maxLen; omega) (by omega) hbase _ rfl ?_
      intro g cap' w' hown' hgrow hl hlt
      rw [← List.map_append] at hown'
      refine h _ cap' w' ⟨by simp [hown.len, hb.len], hown'⟩ (by rw [blk_own] at hgrow; exact hgrow) (fun q hq => ?_)
      cases hq
      rw [blk_own] at hl
      rcases hl with e | e
      · exact .inl e
      · exact .inr (by simp only; omega)
end

theorem _root_.Go.Proofs.YtlghcboenkglnaaGreatDoor.Bs.idle {w w' : World} {ao : Option Addr} {n cap : Nat} {l : List UInt8} (h : Bs w ao n cap l) (hn : n = 0) : Bs w' ao n cap l := by
  subst hn
  obtain rfl : l = [] := List.eq_nil_of_length_eq_zero h.len
  exact ⟨rfl, h.room, h.top, h.nil, fun a ha j u hu => by simp at hu⟩
section
variable {w w' : World} {b m : Nat} {fs : List (Int × Int)} {st : Int} {n : Nat} {D : DataW Unit}

set_option maxRecDepth 100000 in
set_option maxHeartbeats 2000000 in
theorem append_gen (s : ByteArray) (g base : Nat) (hbase : base ≤ w.heap.size) (h : Ds w b m fs st n D) (h0 : 0 ≤ st) (h1 : st < 4611686018427387904) (hs : nameB s = true) (hg : at? D s (some g)) {bo : Option Addr} {bn bc : Nat} {la : Int} {nl : Bool} (hf : Fl w g bo bn bc la true nl) (hne : g ≠ b) (l : List UInt8) (ho : Ow w base 5 bo bn bc l)
    (xo : Option Addr) (k c : Nat) (x : List UInt8) (hx : Bs w xo k c x) (hxp : ∀ a, xo = some a → k = 0 ∨ a.block ≠ b) (hbb : blk bo ≠ some b) (hbg : blk bo ≠ some g) (hsum : bn + k ≤ 16777216) (j : Nat) (hj : (stepR fs (k : Int)).1 = j) (hjk : j ≤ k) :
    Calls Tryz.prog 24 #[.pointer (some ⟨b, 0, none⟩), .string s, .slice xo k c] w fun e w' => e = .returned (.int .i64 (stepR fs (k : Int)).2) ∧ ∃ bo' bc', Fl w' g bo' (bn + j) bc' la true nl ∧ Ow w' base 5 bo' (bn + j) bc' (l ++ x.take j) ∧ Lies w bo bo' ∧ Ds w' b m fs.tail (st + 1) n D ∧ Chg w w' (fun k => k = b ∨ k = g ∨ blk bo = some k) := by
  have hfi := find_ds s g h hs hg hf
  have hst := step_ds (k : Int) h h0 h1
  rw [hj] at hst
  have k0 := hf.c0
  generalize (stepR fs (k : Int)).2 = cd at *
  have hlen := hx.len
  have hroom := hx.room
  have htop := hx.top
  unfold maxLen at htop
  have d1 : decide ((16777216 : Int) - (bn : Int) < (k : Int)) = false := by simp; omega
  clear hj h hs hg
  cases xo with
  | none =>
    obtain rfl := hx.nil rfl
    obtain rfl : k = 0 := by omega
    obtain rfl : j = 0 := by omega
    go_enter Tryz.func24, Tryz.ntmps24
    go_wp2_with fail
    refine hfi.mono ?_
    clear hfi
    rintro e w1 ⟨rfl, rfl⟩
    go_wp2_with fail
    refine hst.mono ?_
    clear hst
    rintro e w2 ⟨rfl, hD2, hc2⟩
    have hf2 := hf.chg hc2 hne
    have ho2 := ho.kept hc2.row (by cases hk : blk bo with | none => exact .inl rfl | some q => right; rw [hk] at hbb; exact hbb)
    have hx2 := (hx.kept hc2.row (fun a e => by cases e)).take 0 hjk
    have hs2 := hc2.size
    have hC2 := hc2
    clear k0 hx ho hf hc2
    have k0 := hf2.c0
    have f0 := hf2.fz 0
    go_wp2_with fail
    have hod := ho2.grown (grown_drew w2 none)
    have hxd := hx2.grown (grown_drew w2 none)
    have kd : w2.drew.cell? ⟨g, 0, none⟩ = some (.slice bo bn bc) := k0
    have hgl := hf2.lt
    have hbd : base ≤ w2.drew.heap.size := Nat.le_trans hbase hs2
    have hsd : w2.drew.heap.size = w2.heap.size := rfl
    go_region_law (refine step_append_ls (by rfl) (.tmp 39) (.tmp 42) 48 (by rfl) base 5 Tryz.underlying48 info5 (by rfl) hod (by rfl) hxd (by omega) hbd (bn + 0) (l ++ x.take 0) rfl rfl ?_; intro bo' bc' w3 ho3 hg3 hli; have hg3' : w2.drew.grownBy w3 (blk bo) := hg3; have q0 := hg3'.cell kd (fun e => hbg e.symm); have q1 : w3.frozen? ⟨g, 0, none⟩ = false := (World.frozen?_of_block (w := w2) (a := ⟨g, 0, none⟩) (hg3'.block g hgl (fun e => hbg e.symm))).trans f0)
    have hcd := chg_grown (grown_drew w2 none)
    have hc3 := chg_grown hg3'
    have hgm := Ne.symm (hD2.mp.row hf2.ty)
    have hD3 := (hD2.chg hcd (by simp) (by simp) (fun k e => by cases e)).chg hc3 hbb (fun e => (hD2.mp.row (ho2.ty m e)) rfl) (fun k e hk => (hod.ty k e).ne hk (by decide) rfl)
    have hf3 := (hf2.chg hcd (by simp)).chg hc3 hbg
    have hc4 := setCell_chg w3 g 0 (.slice bo' (bn + 0) bc')
    have hD4 := hD3.chg hc4 (fun e => hne e.symm) (fun e => hgm e) (fun k e hk => by subst e; exact hf3.ty.ne hk (by decide) rfl)
    have hf4 := hf3.bytes bo' (bn + 0) bc'
    have ho4 := ho3.kept hc4.row (by cases hq : blk bo' with | none => exact .inl rfl | some q => right; intro e; cases e; exact (ho3.ty g hq).ne hf3.ty (by decide) rfl)
    have hC := ((hC2.mono (fun k _ e => Or.inl e)).trans ((hcd.mono (fun k _ e => by cases e)).trans (hc3.mono (fun k _ e => Or.inr (Or.inr e))))).trans (hc4.mono (fun k _ e => Or.inr (Or.inl e)))
    have hL : Lies w1 bo bo' := fun q hq => (hli q hq).imp id (fun e => Nat.le_trans hs2 e)
    clear hcd hc3 hD3 hf3 hc4 ho3 hg3 hg3' hod hxd kd hx2 ho2 hf2 hD2 hC2 hli
    go_wp2
    go_ret
    exact ⟨rfl, bo', bc', hf4, ho4, hL, hD4, hC⟩
  | some xa =>
    have hxb := hxp _ rfl
    go_enter Tryz.func24, Tryz.ntmps24
    go_wp2_with fail
    refine hfi.mono ?_
    clear hfi
    rintro e w1 ⟨rfl, rfl⟩
    go_wp2_with fail
    refine hst.mono ?_
    clear hst
    rintro e w2 ⟨rfl, hD2, hc2⟩
    have hf2 := hf.chg hc2 hne
    have ho2 := ho.kept hc2.row (by cases hk : blk bo with | none => exact .inl rfl | some q => right; rw [hk] at hbb; exact hbb)
    have hx2 := (show Bs w2 _ _ _ x from by rcases hxb with h9 | h9; exact Bs.idle hx h9; exact hx.kept hc2.row (fun a e => by cases e; simpa using h9)).take j hjk
    have hs2 := hc2.size
    have hC2 := hc2
    clear k0 hx ho hf hc2
    have k0 := hf2.c0
    have f0 := hf2.fz 0
    have b1 : (0 : Int) ≤ (j : Int) := by omega
    have b2 : (j : Int) ≤ (c : Int) := by omega
    go_wp2_with fail
    have hod := ho2.grown (grown_drew w2 none)
    have hxd := hx2.grown (grown_drew w2 none)
    have kd : w2.drew.cell? ⟨g, 0, none⟩ = some (.slice bo bn bc) := k0
    have hgl := hf2.lt
    have hbd : base ≤ w2.drew.heap.size := Nat.le_trans hbase hs2
    have hsd : w2.drew.heap.size = w2.heap.size := rfl
    go_region_law (refine step_append_ls (by rfl) (.tmp 39) (.tmp 42) 48 (by rfl) base 5 Tryz.underlying48 info5 (by rfl) hod (by rfl) hxd (by omega) hbd (bn + j) (l ++ x.take j) rfl rfl ?_; intro bo' bc' w3 ho3 hg3 hli; have hg3' : w2.drew.grownBy w3 (blk bo) := hg3; have q0 := hg3'.cell kd (fun e => hbg e.symm); have q1 : w3.frozen? ⟨g, 0, none⟩ = false := (World.frozen?_of_block (w := w2) (a := ⟨g, 0, none⟩) (hg3'.block g hgl (fun e => hbg e.symm))).trans f0)
    have hcd := chg_grown (grown_drew w2 none)
    have hc3 := chg_grown hg3'
    have hgm := Ne.symm (hD2.mp.row hf2.ty)
    have hD3 := (hD2.chg hcd (by simp) (by simp) (fun k e => by cases e)).chg hc3 hbb (fun e => (hD2.mp.row (ho2.ty m e)) rfl) (fun k e hk => (hod.ty k e).ne hk (by decide) rfl)
    have hf3 := (hf2.chg hcd (by simp)).chg hc3 hbg
    have hc4 := setCell_chg w3 g 0 (.slice bo' (bn + j) bc')
    have hD4 := hD3.chg hc4 (fun e => hne e.symm) (fun e => hgm e) (fun k e hk => by subst e; exact hf3.ty.ne hk (by decide) rfl)
    have hf4 := hf3.bytes bo' (bn + j) bc'
    have ho4 := ho3.kept hc4.row (by cases hq : blk bo' with | none => exact .inl rfl | some q => right; intro e; cases e; exact (ho3.ty g hq).ne hf3.ty (by decide) rfl)
    have hC := ((hC2.mono (fun k _ e => Or.inl e)).trans ((hcd.mono (fun k _ e => by cases e)).trans (hc3.mono (fun k _ e => Or.inr (Or.inr e))))).trans (hc4.mono (fun k _ e => Or.inr (Or.inl e)))
    have hL : Lies w1 bo bo' := fun q hq => (hli q hq).imp id (fun e => Nat.le_trans hs2 e)
    clear hcd hc3 hD3 hf3 hc4 ho3 hg3 hg3' hod hxd kd hx2 ho2 hf2 hD2 hC2 hli
    go_wp2
    go_ret
    exact ⟨rfl, bo', bc', hf4, ho4, hL, hD4, hC⟩
end
end Go.Proofs.YtlghcboenkglnaaGreatDoor.Dsk

/-
  A disk on which some calls were made: what is kept.
-/
namespace Go.Proofs.YtlghcboenkglnaaGreatDoor.Dsk
open Go.Proofs.YtlghcboenkglnaaGreatDoor
open Go.RowKit Go.Maps Go.WideMaps
set_option linter.unusedVariables false
set_option linter.unusedSectionVars false
variable [FO : Inhabited (Nat → Prop)]

/-- A disk on which i calls were made, its memory from base on. -/
structure Iv (w : World) (b m base : Nat) (fs : List (Int × Int)) (st : Int) (n : Nat) (D : DataW Unit) (X : Nat → Fm) (B : Nat → List UInt8) (i : Nat) : Prop where
  ds : Ds w b m fs st n D
  st0 : 0 ≤ st
  st1 : st ≤ i
  fl : ∀ s g, at? D s (some g) → FlX w g (X g)
  ow : ∀ s g, at? D s (some g) → Ow w base 5 (X g).bo (X g).bn (X g).bc (B g)
  la : ∀ s g, at? D s (some g) → ∃ a : Nat, (X g).la = a ∧ a ≤ (X g).bn ∧ (X g).bn ≤ 3000 * i
  inj : ∀ s s' g, at? D s (some g) → at? D s' (some g) → s = s'
  ne : ∀ s g, at? D s (some g) → g ≠ b
  nb : ∀ s g, at? D s (some g) → blk (X g).bo ≠ some b
  lo : ∀ s g, at? D s (some g) → base ≤ g
  apart : ∀ s s' g g' q, at? D s (some g) → at? D s' (some g') → blk (X g).bo = some q → blk (X g').bo = some q → g = g'
  nz : Nz D
  sz : Maps.size D ≤ i
  sn : n ≤ i
  lb : base ≤ b
  lm : base ≤ m
  bs : base ≤ w.heap.size
  fsl : fs.length ≤ 100 + 100 * i
  nm : ∀ s g, at? D s (some g) → nameB s = true
section
variable {w w' : World} {b m base : Nat} {fs fs' : List (Int × Int)} {st : Int} {n i : Nat} {D : DataW Unit} {X : Nat → Fm} {B : Nat → List UInt8}

theorem Iv.fb (h : Iv w b m base fs st n D X B i) (hi : i ≤ 4000) : Fb w D X B :=
  ⟨h.fl, fun s g hg => (h.ow s g hg).rebase (Nat.zero_le _), fun s g hg => by obtain ⟨a, _, _, h3⟩ := h.la s g hg; omega, h.nz⟩
/-- What is not told changes. -/
theorem Iv.grown (h : Iv w b m base fs st n D X B i) (hg : w.grownBy w' none) : Iv w' b m base fs st n D X B i := by
  have hc := Chg.of_grown hg (fun _ => False)
  exact ⟨h.ds.chg hc (fun e => e) (fun e => e) (fun k e => e.elim), h.st0, h.st1, fun s g hg => (h.fl s g hg).chg hc (fun e => e), fun s g hg => (h.ow s g hg).beside hc (fun _ _ e => e), h.la, h.inj, h.ne, h.nb, h.lo, h.apart, h.nz, h.sz, h.sn, h.lb, h.lm, Nat.le_trans h.bs hg.size, h.fsl, h.nm⟩
/-- A step that changes no file. -/
theorem Iv.step (h : Iv w b m base fs st n D X B i) (hd : Ds w' b m fs.tail (st + 1) n D) (hc : Chg w w' (fun k => k = b)) : Iv w' b m base fs.tail (st + 1) n D X B (i + 1) := by
  exact ⟨hd, by have := h.st0; omega, by have := h.st1; push_cast; omega, fun s g hg => (h.fl s g hg).chg hc (h.ne s g hg), fun s g hg => (h.ow s g hg).beside hc (fun q hq e => h.nb s g hg (by rw [hq, e])), fun s g hg => by obtain ⟨a, h1, h2, h3⟩ := h.la s g hg; exact ⟨a, h1, h2, by omega⟩, h.inj, h.ne, h.nb, h.lo, h.apart, h.nz, by have := h.sz; omega, by have := h.sn; omega, h.lb, h.lm, Nat.le_trans h.bs hc.size, by have := h.fsl; simp; omega, h.nm⟩
/-- A step that changes one file. -/
theorem Iv.file (h : Iv w b m base fs st n D X B i) {s0 : ByteArray} {g : Nat} (hg : at? D s0 (some g)) (hd : Ds w' b m fs.tail (st + 1) n D) (x' : Fm) (l' : List UInt8) (hfl : FlX w' g x') (how : Ow w' base 5 x'.bo x'.bn x'.bc l') (hla : ∃ a : Nat, x'.la = a ∧ a ≤ x'.bn ∧ x'.bn ≤ 3000 * (i + 1)) (hl : Lies w (X g).bo x'.bo) (hc : Chg w w' (fun k => k = b ∨ k = g ∨ blk (X g).bo = some k)) :
    Iv w' b m base fs.tail (st + 1) n D (fun k => if k = g then x' else X k) (fun k => if k = g then l' else B k) (i + 1) := by
  have hbl : b < w.heap.size := by obtain ⟨⟨fo, fn, fc, h1, _⟩, _⟩ := h.ds; exact h1.lt
  have hrow : ∀ s g2 q, at? D s (some g2) → blk (X g2).bo = some q → Ty w q 5 := fun s g2 q hs hq => (h.ow s g2 hs).ty q hq
  refine ⟨hd, by have := h.st0; omega, by have := h.st1; push_cast; omega, fun s g2 hs => ?_, fun s g2 hs => ?_, fun s g2 hs => ?_, h.inj, h.ne, fun s g2 hs => ?_, h.lo, fun s s' g2 g3 q hs hs' h1 h2 => ?_, h.nz, by have := h.sz; omega, by have := h.sn; omega, h.lb, h.lm, Nat.le_trans h.bs hc.size, by have := h.fsl; simp; omega, h.nm⟩
  · by_cases e : g2 = g
    · subst e; simpa using hfl
    · rw [if_neg e]
      refine (h.fl s g2 hs).chg hc (fun k => ?_)
      rcases k with k | k | k
      · exact h.ne s g2 hs k
      · exact e k
      · exact (hrow s0 g _ hg k).ne (h.fl s g2 hs).ty (by decide) rfl
  · by_cases e : g2 = g
    · subst e; simpa using how
    · rw [if_neg e, if_neg e]
      refine (h.ow s g2 hs).beside hc (fun q hq k => ?_)
      rcases k with k | k | k
      · exact h.nb s g2 hs (by rw [hq, k])
      · subst k; exact (hrow s g2 _ hs hq).ne (h.fl s0 q hg).ty (by decide) rfl
      · exact e (h.apart s s0 g2 g q hs hg hq k)
  · by_cases e : g2 = g
    · subst e; simpa using hla
    · rw [if_neg e]
      obtain ⟨a, h1, h2, h3⟩ := h.la s g2 hs
      exact ⟨a, h1, h2, by omega⟩
  · by_cases e : g2 = g
    · subst e
      simp only [if_true]
      intro k
      rcases hl b k with k | k
      · exact h.nb s0 g2 hg k
      · omega
    · rw [if_neg e]; exact h.nb s g2 hs
  · have key : ∀ s g2, at? D s (some g2) → g2 ≠ g → blk x'.bo = some q → blk (X g2).bo = some q → False := fun s g2 hs e k1 k2 => by
      rcases hl q k1 with k | k
      · exact e (h.apart s s0 g2 g q hs hg k2 k)
      · have := (hrow s g2 q hs k2).lt
        omega
    by_cases e : g2 = g
    · by_cases e' : g3 = g
      · rw [e, e']
      · simp only [e, e', if_true, if_false] at h1 h2
        exact (key s' g3 hs' e' h1 h2).elim
    · by_cases e' : g3 = g
      · simp only [e, e', if_true, if_false] at h1 h2
        exact (key s g2 hs e h2 h1).elim
      · simp only [e, e', if_false] at h1 h2
        exact h.apart s s' g2 g3 q hs hs' h1 h2
/-- A step that makes a file. -/
theorem Iv.made (h : Iv w b m base fs st n D X B i) {s0 : ByteArray} {g : Nat} (hs0 : nameB s0 = true) (hg : w.heap.size ≤ g) (hk : WideAt.IsKeyLit (.string s0.data.toList)) (hn : at? D s0 none) (hd : Ds w' b m fs.tail (st + 1) (n + 1) (D.put (.string s0.data.toList) (.lit (.int .i64 g)))) (hfl : Fl w' g none 0 0 0 true false) (hc : Chg w w' (fun k => k = b ∨ k = m)) :
    Iv w' b m base fs.tail (st + 1) (n + 1) (D.put (.string s0.data.toList) (.lit (.int .i64 g))) (fun k => if k = g then ⟨none, 0, 0, 0, true, false⟩ else X k) (fun k => if k = g then [] else B k) (i + 1) := by
  have hbl : b < w.heap.size := by obtain ⟨⟨fo, fn, fc, h1, _⟩, _⟩ := h.ds; exact h1.lt
  obtain ⟨es, rfl, hap, hkeys⟩ := h.ds.mp.entries (string_keyed Tryz.underlying9)
  have hM : IsMap (.map es : DataW Unit) := ⟨es, rfl⟩
  have hT : Tidy (.map es : DataW Unit) := ⟨es, rfl, hap⟩
  have hcase : ∀ s g2, at? ((DataW.map es).put (.string s0.data.toList) (.lit (.int .i64 g))) s (some g2) → (s = s0 ∧ g2 = g) ∨ (s ≠ s0 ∧ at? (.map es) s (some g2) ∧ g2 ≠ g) := fun s g2 hs => by
    by_cases e : s = s0
    · subst e
      exact .inl ⟨rfl, by simpa using at_one hs (at_put_same hM hk g)⟩
    · have h1 := (at_put_other e _ _).1 hs
      exact .inr ⟨e, h1, fun e2 => by have := (h.fl s g2 h1).lt; omega⟩
  refine ⟨hd, by have := h.st0; omega, by have := h.st1; push_cast; omega, fun s g2 hs => ?_, fun s g2 hs => ?_, fun s g2 hs => ?_, fun s s' g2 hs hs' => ?_, fun s g2 hs => ?_, fun s g2 hs => ?_, fun s g2 hs => ?_, fun s s' g2 g3 q hs hs' h1 h2 => ?_, h.nz.put hM hk g, ?_, by have := h.sn; omega, h.lb, h.lm, Nat.le_trans h.bs hc.size, by have := h.fsl; simp; omega, fun s g2 hs => (hcase s g2 hs).elim (fun e => e.1 ▸ hs0) (fun e => h.nm s g2 e.2.1)⟩
  · rcases hcase s g2 hs with ⟨rfl, rfl⟩ | ⟨_, h1, e⟩
    · simpa using hfl
    · rw [if_neg e]
      exact (h.fl s g2 h1).chg hc (fun k => k.elim (h.ne s g2 h1) (h.ds.mp.row (h.fl s g2 h1).ty))
  · rcases hcase s g2 hs with ⟨rfl, rfl⟩ | ⟨_, h1, e⟩
    · simpa using Ow.nil w' base 5
    · rw [if_neg e, if_neg e]
      exact (h.ow s g2 h1).beside hc (fun q hq k => k.elim (fun k => h.nb s g2 h1 (by rw [hq, k])) (h.ds.mp.row ((h.ow s g2 h1).ty q hq)))
  · rcases hcase s g2 hs with ⟨rfl, rfl⟩ | ⟨_, h1, e⟩
    · simp
    · rw [if_neg e]
      obtain ⟨a, h1, h2, h3⟩ := h.la s g2 h1
      exact ⟨a, h1, h2, by omega⟩
  · rcases hcase s g2 hs with ⟨rfl, rfl⟩ | ⟨_, h1, e⟩ <;> rcases hcase s' _ hs' with ⟨rfl, e3⟩ | ⟨_, h2, e2⟩
    · rfl
    · exact absurd rfl e2
    · exact absurd e3 e
    · exact h.inj s s' g2 h1 h2
  · rcases hcase s g2 hs with ⟨rfl, rfl⟩ | ⟨_, h1, e⟩
    · omega
    · exact h.ne s g2 h1
  · rcases hcase s g2 hs with ⟨rfl, rfl⟩ | ⟨_, h1, e⟩
    · simp [blk]
    · rw [if_neg e]; exact h.nb s g2 h1
  · rcases hcase s g2 hs with ⟨rfl, rfl⟩ | ⟨_, h1, e⟩
    · have := h.bs; omega
    · exact h.lo s g2 h1
  · rcases hcase s g2 hs with ⟨rfl, rfl⟩ | ⟨_, k1, e⟩
    · simp [blk] at h1
    · rcases hcase s' g3 hs' with ⟨rfl, rfl⟩ | ⟨_, k2, e2⟩
      · simp [blk] at h2
      · rw [if_neg e] at h1
        rw [if_neg e2] at h2
        exact h.apart s s' g2 g3 q k1 k2 h1 h2
  · have hz := h.sz
    rw [size_put hT]
    split <;> omega
end
end Go.Proofs.YtlghcboenkglnaaGreatDoor.Dsk

/-
  The six calls that change a disk: each is refused, and nothing changes, or is one step.
-/
namespace Go.Proofs.YtlghcboenkglnaaGreatDoor.Dsk
open Go.Proofs.YtlghcboenkglnaaGreatDoor
open Go.RowKit Go.Maps Go.WideMaps
set_option linter.unusedVariables false
set_option linter.unusedSectionVars false
variable [FO : Inhabited (Nat → Prop)]

theorem stepR_le (fs : List (Int × Int)) (z : Nat) : ∃ j : Nat, (stepR fs (z : Int)).1 = j ∧ j ≤ z := by
  cases fs with
  | nil => exact ⟨z, rfl, Nat.le_refl _⟩
  | cons x l =>
    have hm : ∃ j : Nat, min (max x.2 0) (z : Int) = j ∧ j ≤ z := ⟨(min (max x.2 0) (z : Int)).toNat, by omega, by omega⟩
    simp only [stepR]
    by_cases h1 : x.1 = 1
    · rw [if_pos h1]; exact hm
    · by_cases h2 : x.1 = 2
      · rw [if_neg h1, if_pos h2]; exact hm
      · rw [if_neg h1, if_neg h2]; exact ⟨z, rfl, Nat.le_refl _⟩
theorem name_le {s : ByteArray} (hs : nameB s = true) : s.size ≤ maxLen := by
  unfold nameB at hs
  simp at hs
  unfold maxLen
  omega
section
variable {w : World} {b m base : Nat} {fs : List (Int × Int)} {st : Int} {n i : Nat} {D : DataW Unit} {X : Nat → Fm} {B : Nat → List UInt8}

end
end Go.Proofs.YtlghcboenkglnaaGreatDoor.Dsk

/-
  A script; vast.
-/
namespace Go.Proofs.YtlghcboenkglnaaGreatDoor.Dsk
open Go.Proofs.YtlghcboenkglnaaGreatDoor
open Go.RowKit Go.Maps Go.WideMaps
set_option linter.unusedVariables false
set_option linter.unusedSectionVars false
variable [FO : Inhabited (Nat → Prop)]

/-- One call of a script. -/
structure Sx where
  kd : Int
  pl : Int
  nn : Int
  nm : ByteArray
  bo : Option Addr
  bn : Nat
  bc : Nat
  fo : Option Addr
  fn : Nat
  fc : Nat
  po : Option Addr
  pn : Nat
  pc : Nat
/-- The cells of one call. -/
structure Sc (w : World) (b i : Nat) (x : Sx) : Prop where
  c0 : w.cell? ⟨b, i, none⟩ = some (.int .i64 x.kd)
  c1 : w.cell? ⟨b, i + 1, none⟩ = some (.int .i64 x.pl)
  c2 : w.cell? ⟨b, i + 2, none⟩ = some (.int .i64 x.nn)
  c3 : w.cell? ⟨b, i + 3, none⟩ = some (.string x.nm)
  c4 : w.cell? ⟨b, i + 4, none⟩ = some (.slice x.bo x.bn x.bc)
  c5 : w.cell? ⟨b, i + 5, none⟩ = some (.slice x.fo x.fn x.fc)
  c6 : w.cell? ⟨b, i + 6, none⟩ = some (.slice x.po x.pn x.pc)
theorem Sc.grown {w w' : World} {b i : Nat} {x : Sx} (h : Sc w b i x) (hg : w.grownBy w' none) : Sc w' b i x :=
  ⟨hg.cell h.c0 (by simp), hg.cell h.c1 (by simp), hg.cell h.c2 (by simp), hg.cell h.c3 (by simp), hg.cell h.c4 (by simp), hg.cell h.c5 (by simp), hg.cell h.c6 (by simp)⟩
section
variable {w w' w0 : World} {b m base : Nat} {fs : List (Int × Int)} {st : Int} {n i : Nat} {D D' : DataW Unit} {X : Nat → Fm} {B : Nat → List UInt8}

theorem Iv.mono (h : Iv w b m base fs st n D X B i) : Iv w b m base fs st n D X B (i + 1) :=
  ⟨h.ds, h.st0, by have := h.st1; push_cast; omega, h.fl, h.ow, fun s g hg => by obtain ⟨a, h1, h2, h3⟩ := h.la s g hg; exact ⟨a, h1, h2, by omega⟩, h.inj, h.ne, h.nb, h.lo, h.apart, h.nz, by have := h.sz; omega, by have := h.sn; omega, h.lb, h.lm, h.bs, by have := h.fsl; omega, h.nm⟩
theorem Cp.grown {nm ba cnt n' : Nat} {left : Lit → Bool} (h : Cp w0 w nm ba D X B left cnt n' D') (hg : w.grownBy w' none) : Cp w0 w' nm ba D X B left cnt n' D' := by
  have hc := Chg.of_grown hg (fun _ => False)
  exact ⟨h.mp.chg hc (fun e => e), h.cnt, h.has, fun s g hs hl => by obtain ⟨g', bo', bc', k1, k2, k3, k4⟩ := h.fl s g hs hl; exact ⟨g', bo', bc', k1, k2, k3.chg hc (fun e => e), k4.beside hc (fun _ _ e => e)⟩, fun s g hs => Nat.lt_of_lt_of_le (h.lt s g hs) hg.size, h.inj, h.nz, h.chg.trans (Chg.of_grown hg _), fun s g' hs => by obtain ⟨k1, bo, n, c, k2, k3⟩ := h.ro s g' hs; exact ⟨k1, bo, n, c, hc.cell k2 (fun e => e), fun q hq => ⟨(k3 q hq).1, Nat.lt_of_lt_of_le (k3 q hq).2 hg.size⟩⟩, fun s s' g1 g2 bo n c bo' n' c' q h1 h2 e1 e2 => by
    obtain ⟨_, bo3, n3, c3, k2, _⟩ := h.ro s g1 h1
    obtain ⟨_, bo4, n4, c4, k4, _⟩ := h.ro s' g2 h2
    have q2 := hc.cell k2 (fun e => e)
    have q4 := hc.cell k4 (fun e => e)
    rw [q2] at e1
    rw [q4] at e2
    cases e1
    cases e2
    exact h.ap s s' g1 g2 _ _ _ _ _ _ q h1 h2 k2 k4⟩
theorem Iv.new {l : List (Int × Int)} (h : Ds w b m l 0 0 (.map [])) (hl : l.length ≤ 100) (hb : base ≤ b) (hm : base ≤ m) (hw : base ≤ w.heap.size) : Iv w b m base l 0 0 (.map []) (fun _ => ⟨none, 0, 0, 0, true, false⟩) (fun _ => []) 0 := by
  have no : ∀ s g, ¬ at? (.map [] : DataW Unit) s (some g) := fun s g hg => by have := at_has hg; simp [has_eq] at this
  exact ⟨h, Int.le_refl _, Int.le_refl _, fun s g hg => (no s g hg).elim, fun s g hg => (no s g hg).elim, fun s g hg => (no s g hg).elim, fun s s' g hg => (no s g hg).elim, fun s g hg => (no s g hg).elim, fun s g hg => (no s g hg).elim, fun s g hg => (no s g hg).elim, fun s s' g g' q hg => (no s g hg).elim, fun kl d hd => by have := has_true_of_atKey hd; simp [has_eq] at this, by simp [size_eq], Nat.le_refl _, hb, hm, hw, by omega, fun s g hg => (no s g hg).elim⟩
end
end Go.Proofs.YtlghcboenkglnaaGreatDoor.Dsk
