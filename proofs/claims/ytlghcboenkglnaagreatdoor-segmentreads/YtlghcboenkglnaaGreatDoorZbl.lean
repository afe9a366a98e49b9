import Derived.Test.YtlghcboenkglnaaGreatDoorZbk
import Derived.Test.YtlghcboenkglnaaGreatDoorZbj
import Derived.Deep.RegionHeld3
import Derived.Shelf.SlIter.Nil
import Derived.Shelf.SortM.Plain
import Derived.Shelf.SortM.SortNone
import Derived.Ground.GgzProg
import Derived.Ground.SlgmProg
import Derived.Test.YtlghcboenkglnaaGreatDoorProg
/-
  The program's calls on a file, in the document's words.
-/
namespace Go.Proofs.YtlghcboenkglnaaGreatDoor.Dsk
open Go.Proofs.YtlghcboenkglnaaGreatDoor
open Go.RowKit Go.Maps Go.WideMaps
set_option linter.unusedVariables false

section
variable {w w' : World} {b m base : Nat} {fs fs' : List (Int × Int)} {st st' : Int} {n i i' : Nat} {D : DataW Unit} {X : Nat → Fm} {B : Nat → List UInt8} {T T' : Nat → Prop} {L : List Rf}

/-- A call changes one file. -/
theorem Pn.filed (h : Pv w T b L fs st i) (hM : ∀ s, Mt D X B s (lk L s)) (tm : T m) (tg : ∀ s g, at? D s (some g) → T g ∧ ∀ q, blk (X g).bo = some q → T q) (hinj : ∀ s s' g, at? D s (some g) → at? D s' (some g) → s = s')
    {s : ByteArray} {j g : Nat} {f f' : Rf} (hh : Hit L s j f) (hg : at? D s (some g)) {x' : Fm} {l' : List UInt8} (hI2 : @Iv ⟨T⟩ w' b m 0 fs' st' n D (fun k => if k = g then x' else X k) (fun k => if k = g then l' else B k) i')
    (hx : x'.bn = f'.bs.length ∧ x'.la = (f'.la : Int) ∧ x'.th = f'.th ∧ x'.nl = f'.nl ∧ l' = f'.bs) (hfs : f'.s = f.s) (hl : Lies w (X g).bo x'.bo) (hC : Chg w w' (fun k => k = b ∨ k = g ∨ blk (X g).bo = some k)) : Pn w w' T b (L.set j f') fs' st' i' := by
  have hn : f.s = s := by obtain ⟨f2, h1, h2⟩ := atN_some hh.at'; rw [hh.get] at h1; cases h1; exact h2
  refine Pn.mk (Iv.owner (T := T) hI2 (fun k hk _ => .inl hk)) (fun t => ?_) (h.so.set hh.get hfs) (.inl tm) (fun t g2 h2 => ?_) (hC.mono (fun q _ e => ?_)) h.lt h.tb
  · rw [lk_set h.so hh.get hfs]
    by_cases et : t = f.s
    · rw [if_pos et]
      refine ⟨g, by rw [et, hn]; exact hg, ?_⟩
      simpa using hx
    · rw [if_neg et]
      cases hk : lk L t with
      | none => exact (hM t).at_none hk
      | some f2 =>
        obtain ⟨g2, h2, r⟩ := (hM t).at_some hk
        have hne : g2 ≠ g := fun e => et (by rw [hn]; exact hinj t s g (e ▸ h2) hg)
        exact ⟨g2, h2, by simpa [hne] using r⟩
  · by_cases e : g2 = g
    · subst e
      refine ⟨.inl (tg t g2 h2).1, fun q hq => ?_⟩
      simp at hq
      rcases hl q hq with h3 | h3
      · exact .inl ((tg t g2 h2).2 q h3)
      · exact .inr h3
    · exact ⟨.inl (tg t g2 h2).1, fun q hq => .inl ((tg t g2 h2).2 q (by simpa [e] using hq))⟩
  · rcases e with e | e | e
    · rw [e]; exact h.tb
    · rw [e]; exact (tg s g hg).1
    · exact (tg s g hg).2 q e
/-- A file that is there, as the program has it. -/
theorem Iv.hit (hI : @Iv ⟨T⟩ w b m 0 fs st n D X B i) (hM : ∀ s, Mt D X B s (lk L s)) {s : ByteArray} {j : Nat} {f : Rf} (hh : Hit L s j f) : ∃ g bo bc, at? D s (some g) ∧ X g = ⟨bo, f.bs.length, bc, (f.la : Int), true, f.nl⟩ ∧ B g = f.bs ∧ Fl w g bo f.bs.length bc (f.la : Int) true f.nl ∧ f.la ≤ f.bs.length ∧ f.bs.length ≤ 3000 * i ∧ Ow w 0 5 bo f.bs.length bc f.bs ∧ blk bo ≠ some b ∧ blk bo ≠ some g ∧ g ≠ b := by
  letI FO : Inhabited (Nat → Prop) := ⟨T⟩
  obtain ⟨g, hg, r1, r2, r3, r4, r5⟩ := (hM s).at_some (by rw [lk_atN hh.at']; exact hh.get)
  have hfl := hI.fl s g hg
  have how := hI.ow s g hg
  obtain ⟨a, q1, q2, q3⟩ := hI.la s g hg
  have hnb := hI.nb s g hg
  have hne := hI.ne s g hg
  obtain ⟨x, hx⟩ : ∃ x, X g = x := ⟨_, rfl⟩
  rw [hx] at r1 r2 r3 r4 hfl how q1 q2 q3 hnb
  rw [r5] at how
  obtain ⟨bo, bn, bc, la, th, nl⟩ := x
  dsimp only at r1 r2 r3 r4 hfl how q1 q2 q3 hnb
  rw [hh.th] at r3
  subst r1 r2 r3 r4
  have hbg : blk bo ≠ some g := fun e => (how.ty g e).ne hfl.ty (by decide) rfl
  exact ⟨g, bo, bc, hg, hx, r5, hfl, by omega, by omega, how, hnb, hbg, hne⟩
end
end Go.Proofs.YtlghcboenkglnaaGreatDoor.Dsk

/-
  The program's Append, Sync, Cut, Remove, SyncDir, in the document's words.
-/
namespace Go.Proofs.YtlghcboenkglnaaGreatDoor.Dsk
open Go.Proofs.YtlghcboenkglnaaGreatDoor
open Go.RowKit Go.Maps Go.WideMaps
set_option linter.unusedVariables false

section
variable {w w' : World} {b m base : Nat} {fs fs' : List (Int × Int)} {st st' : Int} {n i i' : Nat} {D : DataW Unit} {X : Nat → Fm} {B : Nat → List UInt8} {T T' : Nat → Prop} {L : List Rf}

/-- No such file: the document says why. -/
theorem Pv.lost (h : Pv w T b L fs st i) (s : ByteArray) (hc : (findR L s).2 ≠ 0) : Lost w b s (findR L s).2 := by
  letI FO : Inhabited (Nat → Prop) := ⟨T⟩
  obtain ⟨m, n, D, X, B, hI, hM, tm, tg⟩ := h.ex
  unfold findR at hc ⊢
  cases hs : nameB s with
  | false => simpa using lost_bad hI.ds hs
  | true =>
    rw [hs, if_neg (by simp)] at hc
    rw [if_neg (by simp)]
    cases ha : atN L s with
    | none => exact lost_none hI.ds hs ((hM s).at_none (lk_atN_none.1 ha))
    | some j =>
      rw [ha] at hc
      obtain ⟨f, hf, hfs⟩ := atN_some ha
      obtain ⟨g, hg, r1, r2, r3, r4, r5⟩ := (hM s).at_some (by rw [lk_atN ha]; exact hf)
      have hfl := hI.fl s g hg
      simp only [hf, Option.map_some] at hc ⊢
      by_cases ht : f.th = true
      · simp [ht] at hc
      · have ht' : f.th = false := by simpa using ht
        rw [if_neg (by simp [ht'])]
        rcases hX : X g with ⟨bo, bn, bc, la, th, nl⟩
        rw [hX] at hfl r3
        dsimp only at r3
        rw [ht'] at r3
        subst r3
        exact lost_gone hI.ds hs hg hfl
end
end Go.Proofs.YtlghcboenkglnaaGreatDoor.Dsk

/-
  The program's Cut, in the document's words.
-/
namespace Go.Proofs.YtlghcboenkglnaaGreatDoor.Dsk
open Go.Proofs.YtlghcboenkglnaaGreatDoor
open Go.RowKit Go.Maps Go.WideMaps
set_option linter.unusedVariables false

section
variable {w w' : World} {b m base : Nat} {fs fs' : List (Int × Int)} {st st' : Int} {n i i' : Nat} {D : DataW Unit} {X : Nat → Fm} {B : Nat → List UInt8} {T T' : Nat → Prop} {L : List Rf}

/-- A step that fails. -/
theorem Pn.stepped (h : Pv w T b L fs st i) (hI : @Iv ⟨T⟩ w b m 0 fs st n D X B i) (hM : ∀ s, Mt D X B s (lk L s)) (tm : T m) (tg : ∀ s g, at? D s (some g) → T g ∧ ∀ q, blk (X g).bo = some q → T q) (hd : @Ds ⟨T⟩ w' b m fs.tail (st + 1) n D) (hC : Chg w w' (fun k => k = b)) : Pn w w' T b L fs.tail (st + 1) (i + 1) := by
  letI FO : Inhabited (Nat → Prop) := ⟨T⟩
  have hI2 := hI.step hd hC
  exact Pn.mk (Iv.owner (T := T) hI2 (fun k hk _ => .inl hk)) hM h.so (.inl tm) (fun s g hg => ⟨.inl (tg s g hg).1, fun q hq => .inl ((tg s g hg).2 q hq)⟩) (hC.mono (fun q _ e => by rw [e]; exact h.tb)) h.lt h.tb
end
end Go.Proofs.YtlghcboenkglnaaGreatDoor.Dsk

/-
  Crash: the region in which the new disk and the picker come about, whatever its order.
-/
namespace Go.Proofs.YtlghcboenkglnaaGreatDoor.Dsk
open Go.Proofs.YtlghcboenkglnaaGreatDoor
open Go.RowKit Go.Maps
set_option linter.unusedVariables false

theorem run_store_fn (P : Program) (w : World) (a : Addr) (m : Mode) (f : Fn) (x y : Array Value) : (store a (.func f x y) m).run P w = stored P w a (.func f x y) m := run_store P w a _ m rfl
attribute [local go_sem] run_store_fn

/-- A disk without files. -/
structure Em (w : World) (b m : Nat) : Prop where
  hd : Hd w b m none 0 0 0
  ty : Ty w b 170
  mp : Mp w m 0 (.map [])
theorem Em.chg {w w' : World} {b m : Nat} {S : Nat → Prop} (h : Em w b m) (hc : Chg w w' S) (hb : ¬ S b) (hm : ¬ S m) : Em w' b m := ⟨h.hd.chg hc hb, h.ty.chg hc hb, h.mp.chg hc hm⟩
theorem Em.grown {w w' : World} {b m : Nat} (h : Em w b m) (hg : w.grownBy w' none) : Em w' b m := h.chg (Chg.of_grown hg (fun _ => False)) (fun e => e) (fun e => e)
theorem Is'.grown {w w' : World} {o : Option Addr} {n c : Nat} {l : List Int} (h : Is' w o n c l) (hg : w.grownBy w' none) : Is' w' o n c l := ⟨h.len, h.room, h.top, h.pl, h.nil, fun b i e j x hx => hg.cell (h.k b i e j x hx) (by simp)⟩
theorem boxed_ty {w : World} {b : Nat} {t : TypeId} {v : Value} (h : Boxed w b t v) : Ty w b t := ⟨_, _, h⟩
theorem Pk.set {W : World} {z : Nat} {t : TypeId} {v : Value} {za zp k : Nat} {o : Option Addr} {n c : Nat} {l : List Int} (h : Pk W za zp k o n c l) (hz : Boxed W z t v) (h3 : t ≠ 3) (h39 : t ≠ 49) (ho : ∀ a, o = some a → a.block ≠ z) (u : Value) : Pk (W.setCell ⟨z, 0, none⟩ u) za zp k o n c l :=
  ⟨h.b0.other ((boxed_ty h.b0).ne (boxed_ty hz) (Ne.symm h3)) _, h.b1.other ((boxed_ty h.b1).ne (boxed_ty hz) (Ne.symm h39)) _, ⟨h.sl.len, h.sl.room, h.sl.top, h.sl.pl, h.sl.nil, fun b i e j x hx => (setCell_chg W z 0 u).cell (h.sl.k b i e j x hx) (fun e9 => ho _ e e9)⟩, h.le, h.ne, h.na⟩
end Go.Proofs.YtlghcboenkglnaaGreatDoor.Dsk

/-
  Crash: one round.
-/
namespace Go.Proofs.YtlghcboenkglnaaGreatDoor.Dsk
open Go.Proofs.YtlghcboenkglnaaGreatDoor
open Go.RowKit Go.Maps
set_option linter.unusedVariables false
attribute [local go_sem] Oper.semAt_some

theorem Pk.put {w w' : World} {za zp k : Nat} {o : Option Addr} {n c : Nat} {l : List Int} (h : Pk w za zp k o n c l) {m q : Nat} {D : DataW Unit} (hm : Mp w m q D) (hg : w.grownBy w' (some m)) (ho : ∀ a, o = some a → a.block ≠ m) : Pk w' za zp k o n c l :=
  ⟨(hg.block za h.b0.lt (by simpa using hm.row (boxed_ty h.b0))).trans h.b0, (hg.block zp h.b1.lt (by simpa using hm.row (boxed_ty h.b1))).trans h.b1, ⟨h.sl.len, h.sl.room, h.sl.top, h.sl.pl, h.sl.nil, fun b i e j x hx => hg.cell (h.sl.k b i e j x hx) (by simpa using ho _ e)⟩, h.le, h.ne, h.na⟩
end Go.Proofs.YtlghcboenkglnaaGreatDoor.Dsk

/-
  DERIVED: THE SHELF's CONTRACTS AT THIS DUMP, IN PLAIN WORDS (tools/lay-plain.mjs out of 'YtlghcboenkglnaaGreatDoorLays.lean', which tools/lay-shelf.mjs wrote): THE SAME DECLARATIONS UNDER THE SAME NAMES: 'import', 'namespace', 'open', 'def', 'theorem' AND NOTHING ELSE: no command of the shelf's: FOR A HAND-IN. Each laying: the table of numbers ('.._ren') and one theorem, a field a fact of the dump's own or the kernel's comparison; each contract: ONE APPLICATION.
-/
namespace Go.Proofs
open Go.Shelf
def Tryz.keys116_ren : Go.Shelf.Ren := ⟨fun | 7 => 116 | 10 => 149 | n => n, fun | 23 => 168 | 26 => 9 | 3 => 153 | 28 => 215 | 0 => 0 | 27 => 214 | 33 => 120 | 4 => 4 | n => n, fun | n => n⟩
theorem Tryz.keys116 : Go.Proofs.SlLaysZ.n7 Tryz.prog Tryz.keys116_ren := {
  mixed := by kernel_rfl
  f7 := ⟨Tryz.f116.name, by decide, Tryz.func116.trans (congrArg some (by kernel_rfl))⟩
  f10 := ⟨Tryz.f149.name, by decide, Tryz.func149.trans (congrArg some (by kernel_rfl))⟩
  t0 := Tryz.underlying0
  a0 := Tryz.isAgg0
  z0 := Tryz.sizeOf0
  v0 := Tryz.zeroValue0
  t4 := Tryz.underlying4
  a4 := Tryz.isAgg4
  z4 := Tryz.sizeOf4
  v4 := Tryz.zeroValue4
  t23 := Tryz.underlying168
  a23 := Tryz.isAgg168
  z23 := Tryz.sizeOf168
  v23 := Tryz.zeroValue168
  t26 := Tryz.underlying9
  a26 := Tryz.isAgg9
  z26 := Tryz.sizeOf9
  v26 := Tryz.zeroValue9
  t27 := Tryz.underlying214
  a27 := Tryz.isAgg214
  z27 := Tryz.sizeOf214
  v27 := Tryz.zeroValue214
  t28 := Tryz.underlying215
  a28 := Tryz.isAgg215
  z28 := Tryz.sizeOf215
  v28 := Tryz.zeroValue215
  t33 := Tryz.underlying120
  a33 := Tryz.isAgg120
  z33 := Tryz.sizeOf120
  v33 := Tryz.zeroValue120 }
def Tryz.sorted115_ren : Go.Shelf.Ren := ⟨fun | 6 => 115 | 8 => 147 | 9 => 148 | 11 => 166 | 13 => 168 | 12 => 167 | 23 => 196 | 24 => 197 | 14 => 187 | 15 => 188 | 16 => 189 | 17 => 190 | 18 => 191 | 19 => 192 | 20 => 193 | 21 => 194 | 22 => 195 | 25 => 205 | 26 => 206 | 27 => 207 | 28 => 208 | 29 => 209 | 30 => 210 | 31 => 213 | n => n, fun | 26 => 9 | 28 => 215 | 24 => 212 | 0 => 0 | 3 => 3 | 37 => 180 | 48 => 190 | 50 => 200 | 4 => 4 | 40 => 283 | 39 => 282 | 45 => 165 | 5 => 5 | 9 => 9 | 51 => 301 | 55 => 305 | 57 => 310 | 58 => 139 | 33 => 120 | n => n, fun | n => n⟩
theorem Tryz.sorted115 : Go.Proofs.SlLaysZ.n6 Tryz.prog Tryz.sorted115_ren := {
  mixed := by kernel_rfl
  f6 := ⟨Tryz.f115.name, by decide, Tryz.func115.trans (congrArg some (by kernel_rfl))⟩
  f8 := ⟨Tryz.f147.name, by decide, Tryz.func147.trans (congrArg some (by kernel_rfl))⟩
  f11 := ⟨Tryz.f166.name, by decide, Tryz.func166.trans (congrArg some (by kernel_rfl))⟩
  t0 := Tryz.underlying0
  a0 := Tryz.isAgg0
  z0 := Tryz.sizeOf0
  v0 := Tryz.zeroValue0
  t24 := Tryz.underlying212
  a24 := Tryz.isAgg212
  z24 := Tryz.sizeOf212
  v24 := Tryz.zeroValue212
  t26 := Tryz.underlying9
  a26 := Tryz.isAgg9
  z26 := Tryz.sizeOf9
  v26 := Tryz.zeroValue9
  t28 := Tryz.underlying215
  a28 := Tryz.isAgg215
  z28 := Tryz.sizeOf215
  v28 := Tryz.zeroValue215
  i26 := by kernel_rfl }
def Tryz.sort148_ren : Go.Shelf.Ren := ⟨fun | 6 => 148 | 8 => 168 | 9 => 167 | 19 => 196 | 20 => 197 | 21 => 187 | 22 => 188 | 23 => 189 | 24 => 190 | 25 => 191 | 26 => 192 | 27 => 193 | 28 => 194 | 29 => 195 | 36 => 205 | 31 => 206 | 32 => 207 | 37 => 208 | 38 => 209 | 39 => 210 | 41 => 213 | n => n, fun | 27 => 212 | 29 => 9 | 3 => 3 | 32 => 180 | 26 => 212 | 0 => 0 | 44 => 190 | 46 => 200 | 4 => 4 | 36 => 283 | 35 => 282 | 41 => 165 | 5 => 5 | 9 => 9 | 53 => 301 | 57 => 305 | 63 => 310 | 64 => 139 | n => n, fun | n => n⟩
theorem Tryz.sort148 : Go.Proofs.SlLaysM.n6 Tryz.prog Tryz.sort148_ren := {
  mixed := by kernel_rfl
  f6 := ⟨Tryz.f148.name, by decide, Tryz.func148.trans (congrArg some (by kernel_rfl))⟩
  f8 := Tryz.func168.trans (congrArg some (by kernel_rfl))
  f9 := ⟨Tryz.f167.name, by decide, Tryz.func167.trans (congrArg some (by kernel_rfl))⟩
  f19 := Tryz.func196.trans (congrArg some (by kernel_rfl))
  f20 := Tryz.func197.trans (congrArg some (by kernel_rfl))
  f21 := ⟨Tryz.f187.name, by decide, Tryz.func187.trans (congrArg some (by kernel_rfl))⟩
  f22 := ⟨Tryz.f188.name, by decide, Tryz.func188.trans (congrArg some (by kernel_rfl))⟩
  f23 := ⟨Tryz.f189.name, by decide, Tryz.func189.trans (congrArg some (by kernel_rfl))⟩
  f24 := ⟨Tryz.f190.name, by decide, Tryz.func190.trans (congrArg some (by kernel_rfl))⟩
  f25 := ⟨Tryz.f191.name, by decide, Tryz.func191.trans (congrArg some (by kernel_rfl))⟩
  f26 := ⟨Tryz.f192.name, by decide, Tryz.func192.trans (congrArg some (by kernel_rfl))⟩
  f27 := ⟨Tryz.f193.name, by decide, Tryz.func193.trans (congrArg some (by kernel_rfl))⟩
  f28 := ⟨Tryz.f194.name, by decide, Tryz.func194.trans (congrArg some (by kernel_rfl))⟩
  f29 := ⟨Tryz.f195.name, by decide, Tryz.func195.trans (congrArg some (by kernel_rfl))⟩
  f31 := Tryz.func206.trans (congrArg some (by kernel_rfl))
  f32 := Tryz.func207.trans (congrArg some (by kernel_rfl))
  f36 := ⟨Tryz.f205.name, by decide, Tryz.func205.trans (congrArg some (by kernel_rfl))⟩
  f37 := ⟨Tryz.f208.name, by decide, Tryz.func208.trans (congrArg some (by kernel_rfl))⟩
  f38 := ⟨Tryz.f209.name, by decide, Tryz.func209.trans (congrArg some (by kernel_rfl))⟩
  f39 := ⟨Tryz.f210.name, by decide, Tryz.func210.trans (congrArg some (by kernel_rfl))⟩
  f41 := ⟨Tryz.f213.name, by decide, Tryz.func213.trans (congrArg some (by kernel_rfl))⟩
  t0 := Tryz.underlying0
  a0 := Tryz.isAgg0
  z0 := Tryz.sizeOf0
  v0 := Tryz.zeroValue0
  t3 := Tryz.underlying3
  a3 := Tryz.isAgg3
  z3 := Tryz.sizeOf3
  v3 := Tryz.zeroValue3
  t4 := Tryz.underlying4
  a4 := Tryz.isAgg4
  z4 := Tryz.sizeOf4
  v4 := Tryz.zeroValue4
  t5 := Tryz.underlying5
  a5 := Tryz.isAgg5
  z5 := Tryz.sizeOf5
  v5 := Tryz.zeroValue5
  t9 := Tryz.underlying9
  a9 := Tryz.isAgg9
  z9 := Tryz.sizeOf9
  v9 := Tryz.zeroValue9
  t26 := Tryz.underlying212
  a26 := Tryz.isAgg212
  z26 := Tryz.sizeOf212
  v26 := Tryz.zeroValue212
  t27 := Tryz.underlying212
  a27 := Tryz.isAgg212
  z27 := Tryz.sizeOf212
  v27 := Tryz.zeroValue212
  t29 := Tryz.underlying9
  a29 := Tryz.isAgg9
  z29 := Tryz.sizeOf9
  v29 := Tryz.zeroValue9
  t32 := Tryz.underlying180
  a32 := Tryz.isAgg180
  z32 := Tryz.sizeOf180
  v32 := Tryz.zeroValue180
  t35 := Tryz.underlying282
  a35 := Tryz.isAgg282
  z35 := Tryz.sizeOf282
  v35 := Tryz.zeroValue282
  t36 := Tryz.underlying283
  a36 := Tryz.isAgg283
  z36 := Tryz.sizeOf283
  v36 := Tryz.zeroValue283
  t41 := Tryz.underlying165
  a41 := Tryz.isAgg165
  z41 := Tryz.sizeOf165
  v41 := Tryz.zeroValue165
  t44 := Tryz.underlying190
  a44 := Tryz.isAgg190
  z44 := Tryz.sizeOf190
  v44 := Tryz.zeroValue190
  t46 := Tryz.underlying200
  a46 := Tryz.isAgg200
  z46 := Tryz.sizeOf200
  v46 := Tryz.zeroValue200
  t53 := Tryz.underlying301
  a53 := Tryz.isAgg301
  z53 := Tryz.sizeOf301
  v53 := Tryz.zeroValue301
  t57 := Tryz.underlying305
  a57 := Tryz.isAgg305
  z57 := Tryz.sizeOf305
  v57 := Tryz.zeroValue305
  t63 := Tryz.underlying310
  a63 := Tryz.isAgg310
  z63 := Tryz.sizeOf310
  v63 := Tryz.zeroValue310
  t64 := Tryz.underlying139
  a64 := Tryz.isAgg139
  z64 := Tryz.sizeOf139
  v64 := Tryz.zeroValue139 }
end Go.Proofs
