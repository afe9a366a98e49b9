import Derived.Test.YtgkeflgfnagnjaaZae
import Derived.Deep.RegionWith
import Derived.Deep.RegionLaw
import Derived.Test.YtgkeflgfnagnjaaZab
/-
  Sync and Append of a file that is there.
-/
namespace Go.Proofs.Ytgkeflgfnagnjaa
open Go.RowKit
set_option linter.unusedVariables false
set_option maxRecDepth 100000
set_option linter.unusedSectionVars false
variable [FO : Inhabited (Nat → Prop)]

section
variable {w w' : World} {b m : Nat} {fs : List (Int × Int)} {st : Int} {n : Nat} {D : DataW Unit}

theorem Fl.lasts {g : Nat} {bo : Option Addr} {bn bc : Nat} {la : Int} {th nl : Bool} (h : Fl w g bo bn bc la th nl) (k : Int) : Fl (w.setCell ⟨g, 1, none⟩ (.int .i64 k)) g bo bn bc k th nl :=
  ⟨by rw [World.cell?_setCell_other _ _ _ _ (by simp)]; exact h.c0, by rw [World.cell?_setCell_same _ _ _ h.c1], by rw [World.cell?_setCell_other _ _ _ _ (by simp)]; exact h.c2, by rw [World.cell?_setCell_other _ _ _ _ (by simp)]; exact h.c3, fun i => by simp [h.fz i], by simpa using h.lt, h.ty.set _ _ _⟩
theorem Fl.bytes {g : Nat} {bo : Option Addr} {bn bc : Nat} {la : Int} {th nl : Bool} (h : Fl w g bo bn bc la th nl) (o : Option Addr) (k c : Nat) : Fl (w.setCell ⟨g, 0, none⟩ (.slice o k c)) g o k c la th nl :=
  ⟨by rw [World.cell?_setCell_same _ _ _ h.c0], by rw [World.cell?_setCell_other _ _ _ _ (by simp)]; exact h.c1, by rw [World.cell?_setCell_other _ _ _ _ (by simp)]; exact h.c2, by rw [World.cell?_setCell_other _ _ _ _ (by simp)]; exact h.c3, fun i => by simp [h.fz i], by simpa using h.lt, h.ty.set _ _ _⟩
theorem Ds.chg {S : Nat → Prop} (h : Ds w b m fs st n D) (hc : Chg w w' S) (hb : ¬ S b) (hm : ¬ S m) (hS : ∀ k, S k → Ty w k 138 → False) : Ds w' b m fs st n D := by
  obtain ⟨⟨fo, fn, fc, a1, a2, a3⟩, a4⟩ := h
  exact ⟨⟨fo, fn, fc, a1.chg hc hb, a2.chg hc (fun a e k => hS _ k (a3 a e).2.2.ty), fun a e => ⟨(a3 a e).1, (a3 a e).2.1, (a3 a e).2.2.chg hc (fun k => hS _ k (a3 a e).2.2.ty)⟩⟩, a4.chg hc hm⟩
set_option maxRecDepth 100000 in
set_option maxHeartbeats 1000000 in
theorem sync_at (s : ByteArray) (g : Nat) (h : Ds w b m fs st n D) (h0 : 0 ≤ st) (h1 : st < 4611686018427387904) (hs : nameB s = true) (hg : at? D s (some g)) {bo : Option Addr} {bn bc la : Nat} {nl : Bool} (hf : Fl w g bo bn bc la true nl) (hne : g ≠ b) (hla : la ≤ bn) (hbn : bn ≤ 16777216) (k : Nat) (hk : (stepR fs ((bn : Int) - la)).1 = k) (hkb : k ≤ bn - la) :
    Calls Try.prog 35 #[.pointer (some ⟨b, 0, none⟩), .string s] w fun e w' => e = .returned (.int .i64 (stepR fs ((bn : Int) - la)).2) ∧ Ds w' b m fs.tail (st + 1) n D ∧ Fl w' g bo bn bc ((la + k : Nat) : Int) true nl ∧ Chg w w' (fun k => k = b ∨ k = g) := by
  have hfi := find_ds s g h hs hg hf
  have hst : ∀ W, w.grownBy W none → Calls Try.prog 59 #[.pointer (some ⟨b, 0, none⟩), .int .i64 ((bn : Int) - la)] W fun e w' => e = .returned (.tuple #[.int .i64 k, .int .i64 (stepR fs ((bn : Int) - la)).2]) ∧ Ds w' b m fs.tail (st + 1) n D ∧ Chg w w' (fun k => k = b) := fun W hW => by
    have hc := Chg.of_grown hW (fun _ => False)
    obtain ⟨⟨fo, fn, fc, a1, a2, a3⟩, a4⟩ := h
    have hD : Ds W b m fs st n D := ⟨⟨fo, fn, fc, a1.grown hW, a2.chg hc (fun _ _ e => e), fun a e => ⟨(a3 a e).1, (a3 a e).2.1, (a3 a e).2.2.chg hc (fun e => e)⟩⟩, a4.kept hW (by simp)⟩
    have := step_ds ((bn : Int) - la) hD h0 h1
    rw [hk] at this
    exact this.mono fun e w' h => ⟨h.1, h.2.1, (Chg.of_grown hW _).trans h.2.2⟩
  have hwr : IntKind.i64.wrap ((bn : Int) - (la : Int)) = (bn : Int) - (la : Int) := by rw [IntWalk.i64_in _ (by omega)]
  have hgm : g ≠ m := h.mp.apart hf.c0
  have k0 := hf.c0
  have k1 := hf.c1
  generalize (stepR fs ((bn : Int) - la)).2 = c at *
  clear hk h hs hg
  go_enter Try.func35, Try.ntmps35
  go_wp2_with fail
  refine hfi.mono ?_
  clear hfi
  rintro e w1 ⟨rfl, rfl⟩
  go_wp2_with fail
  go_region_with ((go_at_call 59; refine (hst _ (grown_drew w1 none)).mono ?_; rintro e w2 ⟨rfl, hD2, hc2⟩))
  all_goals
    clear hst
    have hf2 := hf.chg hc2 hne
    have k1 := hf2.c1
    have k0 := hf2.c0
    have f1 := hf2.fz 1
    have hww : IntKind.i64.wrap ((la : Int) + (k : Int)) = ((la + k : Nat) : Int) := by rw [IntWalk.i64_in _ (by omega)]; push_cast; rfl
    have hc3 := setCell_chg w2 g 1 (.int .i64 ((la + k : Nat) : Int))
    have hf3 := hf2.lasts ((la + k : Nat) : Int)
    have hD3 := hD2.chg hc3 (fun e => hne e.symm) (fun e => hgm e.symm) (fun k e hk => by subst e; exact hf2.ty.ne hk (by decide) rfl)
    have hC := (hc2.mono (fun k _ e => Or.inl e)).trans (hc3.mono (fun k _ e => Or.inr e))
    clear hc2 hc3 hD2 hf2 hf
    go_wp2
    go_ret
    exact ⟨rfl, hD3, hf3, hC⟩
end
end Go.Proofs.Ytgkeflgfnagnjaa

/-
  Append of a file that is there.
-/
namespace Go.Proofs.Ytgkeflgfnagnjaa
open Go.RowKit
set_option linter.unusedVariables false
set_option maxRecDepth 100000
set_option linter.unusedSectionVars false
variable [FO : Inhabited (Nat → Prop)]

section
variable {P : Program}
/-- 'append(s, x...)' as one step of a region that draws its order. -/
theorem step_append_bs {ops : Array Oper} {o : Oper} {a : Act} {w : World} {K : Act → World → Prop} {Q : Exit → Act → World → Prop} {E : Prop} (hgd : o.guard = none) (s x : Operand) (t : TypeId)
    (ho : o.op = .call { callee := .builtin .append, args := #[s, x], argTypes := #[t, t] })
    (base : Nat) (e : TypeId) (ht : P.underlying t = some (.slice e)) (hinfo : (P.info? e).map (fun i => (i.zero, i.size, i.bytes)) = some (some (.int .u8 0), 1, 1))
    {ao : Option Addr} {n cap : Nat} {l : List UInt8} (hs : a.eval s = .slice ao n cap) (hown : Ow w base e ao n cap l)
    {xo : Option Addr} {m c : Nat} {k : List UInt8} (hx : a.eval x = .slice xo m c) (hb : Bs w xo m c k)
    (hsum : n + m ≤ 140737488355328) (hbase : base ≤ w.heap.size) (N : Nat) (lk : List UInt8) (hN : n + m = N) (hlk : l ++ k = lk)
    (h : ∀ ao' cap' w', Ow w' base e ao' N cap' lk → w.grownBy w' (blk ao) → K (a.put o.dst (.slice ao' N cap')) w') :
    if Region.wanted o (yielded ops a.tmps) = true then Oper.wp P o a w K Q else E := by
  have hw : Region.wanted o (yielded ops a.tmps) = true := by simp [Region.wanted, hgd]
  rw [if_pos hw]
  subst hN hlk
  obtain ⟨i, hi, hz, hz1, hz2⟩ := info_parts hinfo
  cases xo with
  | none =>
    obtain rfl := hb.nil rfl
    obtain rfl : m = 0 := Nat.le_zero.1 hb.room
    obtain rfl : k = [] := List.eq_nil_of_length_eq_zero hb.len
    have hrun := run_append_owned_none (P := P) (w := w) base t o.type e i 1 ht hi _ n _ hown.row
    unfold Oper.wp
    simp [execOp, ho, resolve, invoke, builtin, hs, hx, hrun, Result.andThen]
    have h2 : K (a.put o.dst (.slice ao n cap)) w := by
      have := h ao cap w (by simpa using hown) (grown_refl _ _)
      simpa using this
    exact h2
  | some ad =>
    refine wp_append_own w s x t ho base e i (.int .u8 0) 1 1 ht hi hz hz1 hz2 rfl (by decide) _ n _ hs hown.row ad m c (k.map bv) hx (by simp [hb.len]) (hb.cells ad rfl) (bv_one k) (by unfold maxLen; omega) (by omega) hbase ?_
    intro v' w' hown' hgrow _
    rw [← List.map_append] at hown'
    obtain ⟨ao', cap', rfl, h1⟩ := Ow.of (l := l ++ k) (by simp [hown.len, hb.len]) hown'
    exact h ao' cap' w' h1 (by rw [blk_own] at hgrow; exact hgrow)
end
theorem Chg.row {w w' : World} {b : Nat} (h : Chg w w' (fun k => k = b)) : w.grownBy w' (some b) := ⟨h.os, h.tape, h.output, h.size, fun k hk hne => h.block k hk (fun e => hne (by rw [e]))⟩
theorem chg_row {w w' : World} {b : Nat} (h : w.grownBy w' (some b)) : Chg w w' (fun k => k = b) := ⟨h.os, h.tape, h.output, h.size, fun k hk hne => h.block k hk (by simpa using hne)⟩
section
variable {w w' : World} {b m : Nat} {fs : List (Int × Int)} {st : Int} {n : Nat} {D : DataW Unit}

theorem chg_grown {row : Option Nat} (h : w.grownBy w' row) : Chg w w' (fun k => row = some k) := ⟨h.os, h.tape, h.output, h.size, fun k hk hne => h.block k hk (fun e => hne e.symm)⟩
theorem Ow.ty {base : Nat} {e : TypeId} {ao : Option Addr} {n cap : Nat} {l : List UInt8} (h : Ow w base e ao n cap l) : ∀ q, blk ao = some q → Ty w q e := by
  intro q hq
  rcases h.row.2 with ⟨h4, _⟩ | ⟨g, c, cs, h4, _, h6, _⟩
  · cases h4; cases hq
  · cases h4
    cases hq
    exact ⟨_, _, h6⟩
theorem Mp.row (h : Mp w m n D) {k : Nat} {t : TypeId} (hk : Ty w k t) : k ≠ m := by
  rintro rfl
  obtain ⟨es, clock, hb, _⟩ := h
  obtain ⟨cs, fr, e⟩ := hk
  rw [hb] at e
  cases e
end
end Go.Proofs.Ytgkeflgfnagnjaa

/-
  picker, and what it tells; stays.
-/
namespace Go.Proofs.Ytgkeflgfnagnjaa
open Go.RowKit
set_option linter.unusedVariables false
set_option maxRecDepth 100000

/-- A slice of numbers: what it shows. -/
structure Is' (w : World) (o : Option Addr) (n c : Nat) (l : List Int) : Prop where
  len : l.length = n
  room : n ≤ c
  top : c ≤ maxLen
  pl : ∀ a, o = some a → ∃ b i, a = ⟨b, i, none⟩
  nil : o = none → n = 0
  k : ∀ b i, o = some ⟨b, i, none⟩ → ∀ j x, l[j]? = some x → w.cell? ⟨b, i + j, none⟩ = some (.int .i64 x)
/-- A picker: where it stands, over which picks. -/
structure Pk (w : World) (za zp : Nat) (k : Nat) (o : Option Addr) (n c : Nat) (l : List Int) : Prop where
  b0 : Boxed w za 3 (.int .i64 k)
  b1 : Boxed w zp 23 (.slice o n c)
  sl : Is' w o n c l
  le : k ≤ n
  ne : za ≠ zp
  na : ∀ a, o = some a → a.block ≠ za
/-- Which of so many ways is gone. -/
def pickR (l : List Int) (k : Nat) (ways : Int) : Int := match l[k]? with | none => 0 | some x => x % ways
section
variable {w w' : World}

set_option maxRecDepth 100000 in
theorem picker_any (o : Option Addr) (n c : Nat) (l : List Int) (hl : Is' w o n c l) (hb : ∀ a, o = some a → a.block < w.heap.size) :
    Calls Try.prog 63 #[.slice o n c] w fun e w' => e = .returned (.func (.func 86) #[] #[.pointer (some ⟨w.heap.size + 1, 0, none⟩), .pointer (some ⟨w.heap.size, 0, none⟩)]) ∧ Pk w' (w.heap.size + 1) w.heap.size 0 o n c l ∧ w.grownBy w' none := by
  have hmf : ∀ (fn : Fn) (first cap : Array Value) (w : World), (Instr.makeFunc fn first cap).run Try.prog w = .ok (.func fn first cap) w := fun _ _ _ _ => rfl
  have fin : ∀ W, (w.alloc (.cells #[.slice o n c] 23)).alloc (.cells #[.int .i64 0] 3) = W → Pk W (w.heap.size + 1) w.heap.size 0 o n c l ∧ w.grownBy W none := by
    rintro W rfl
    have hg := grown_trans (alloc_grown w (.cells #[.slice o n c] 23)) (alloc_grown _ (.cells #[.int .i64 0] 3)) (by simp)
    have a2 := Boxed.new (w.alloc (.cells #[.slice o n c] 23)) 3 (.int .i64 0)
    rw [World.size_alloc] at a2
    exact ⟨⟨a2, (Boxed.new w 23 (.slice o n c)).alloc _, ⟨hl.len, hl.room, hl.top, hl.pl, hl.nil, fun b i e j x hx => hg.cell (hl.k b i e j x hx) (by simp)⟩, Nat.zero_le _, by omega, fun a e => by have := hb a e; omega⟩, hg⟩
  have F : Hid _ := fin
  clear fin
  go_enter Try.func63, Try.ntmps63
  go_wp2
  go_ret
  exact ⟨rfl, F.out _ rfl⟩
set_option maxRecDepth 100000 in
set_option maxHeartbeats 1000000 in
theorem pick_any (za zp k : Nat) (o : Option Addr) (n c : Nat) (l : List Int) (h : Pk w za zp k o n c l) (ways : Int) (hw : 0 < ways) (hw2 : ways < 4611686018427387904) (hl : ∀ x ∈ l, 0 ≤ x ∧ x < 9223372036854775808) (hn : n ≤ 4611686018427387904) :
    Calls Try.prog 86 #[.int .i64 ways, .pointer (some ⟨za, 0, none⟩), .pointer (some ⟨zp, 0, none⟩)] w fun e w' => e = .returned (.int .i64 (pickR l k ways)) ∧ Pk w' za zp (min (k + 1) n) o n c l ∧ Chg w w' (fun q => q = za) := by
  have k0 := h.b0.cell
  have k1 := h.b1.cell
  have f0 := h.b0.frozen
  have hlen := h.sl.len
  have hle := h.le
  by_cases hk : k = n
  · have hp : pickR l k ways = 0 := by unfold pickR; rw [List.getElem?_eq_none (by omega)]
    have hm : min (k + 1) n = k := by omega
    subst hk
    rw [hp, hm]
    go_enter Try.func86, Try.ntmps86
    go_wp2
    go_ret
    exact ⟨rfl, h, Chg.refl _ _⟩
  · have hlt : k < l.length := by omega
    have hxm := hl l[k] (List.getElem_mem hlt)
    have hp : pickR l k ways = l[k] % ways := by unfold pickR; rw [List.getElem?_eq_getElem hlt]
    have hm : min (k + 1) n = k + 1 := by omega
    cases o with
    | none => exact absurd (h.sl.nil rfl) (by omega)
    | some a =>
      obtain ⟨xb, xi, rfl⟩ := h.sl.pl a rfl
      have hx := h.sl.k xb xi rfl k l[k] (List.getElem?_eq_getElem hlt)
      have hxa := h.na _ rfl
      simp only at hxa
      generalize l[k] = x at *
      rw [hp, hm]
      have hc := setCell_chg w za 0 (.int .i64 ((k : Int) + 1))
      have hP : Pk (w.setCell ⟨za, 0, none⟩ (.int .i64 ((k : Int) + 1))) za zp (k + 1) (some ⟨xb, xi, none⟩) n c l :=
        ⟨by have := h.b0.set (.int .i64 ((k : Int) + 1)); simpa using this, h.b1.other (fun e => h.ne e.symm) _, ⟨h.sl.len, h.sl.room, h.sl.top, h.sl.pl, h.sl.nil, fun b i e j x hx => hc.cell (h.sl.k b i e j x hx) (fun e2 => by cases e; exact hxa e2)⟩, by omega, h.ne, h.na⟩
      have d1 : (((k : Nat) : Int) == ((n : Nat) : Int)) = false := by simp; omega
      have b1 : (0 : Int) ≤ (k : Int) := by omega
      have b2 : (k : Int) < (n : Int) := by omega
      have hw0 : ¬ ways = 0 := by omega
      have hzz : ¬ zp = za := fun e => h.ne e.symm
      have hzz2 : ¬ za = zp := h.ne
      have p0 := hP.b0.cell
      have p1 := hP.b1.cell
      clear hp hm h hl
      go_enter Try.func86, Try.ntmps86
      go_wp2
      go_ret
      exact ⟨rfl, hP, hc⟩
end
end Go.Proofs.Ytgkeflgfnagnjaa

/-
  stops: its picker (the disk's walks, turned).
-/
namespace Go.Proofs.Ytgkeflgfnagnjaa
open Go.RowKit
set_option linter.unusedVariables false
set_option maxRecDepth 100000

section
variable {w w' : World}

set_option maxRecDepth 100000 in
theorem spicker_any (o : Option Addr) (n c : Nat) (l : List Int) (hl : Is' w o n c l) (hb : ∀ a, o = some a → a.block < w.heap.size) :
    Calls Try.prog 77 #[.slice o n c] w fun e w' => e = .returned (.func (.func 89) #[] #[.pointer (some ⟨w.heap.size + 1, 0, none⟩), .pointer (some ⟨w.heap.size, 0, none⟩)]) ∧ Pk w' (w.heap.size + 1) w.heap.size 0 o n c l ∧ w.grownBy w' none := by
  have hmf : ∀ (fn : Fn) (first cap : Array Value) (w : World), (Instr.makeFunc fn first cap).run Try.prog w = .ok (.func fn first cap) w := fun _ _ _ _ => rfl
  have fin : ∀ W, (w.alloc (.cells #[.slice o n c] 23)).alloc (.cells #[.int .i64 0] 3) = W → Pk W (w.heap.size + 1) w.heap.size 0 o n c l ∧ w.grownBy W none := by
    rintro W rfl
    have hg := grown_trans (alloc_grown w (.cells #[.slice o n c] 23)) (alloc_grown _ (.cells #[.int .i64 0] 3)) (by simp)
    have a2 := Boxed.new (w.alloc (.cells #[.slice o n c] 23)) 3 (.int .i64 0)
    rw [World.size_alloc] at a2
    exact ⟨⟨a2, (Boxed.new w 23 (.slice o n c)).alloc _, ⟨hl.len, hl.room, hl.top, hl.pl, hl.nil, fun b i e j x hx => hg.cell (hl.k b i e j x hx) (by simp)⟩, Nat.zero_le _, by omega, fun a e => by have := hb a e; omega⟩, hg⟩
  have F : Hid _ := fin
  clear fin
  go_enter Try.func77, Try.ntmps77
  go_wp2
  go_ret
  exact ⟨rfl, F.out _ rfl⟩
set_option maxRecDepth 100000 in
set_option maxHeartbeats 1000000 in
theorem spick_any (za zp k : Nat) (o : Option Addr) (n c : Nat) (l : List Int) (h : Pk w za zp k o n c l) (ways : Int) (hw : 0 < ways) (hw2 : ways < 4611686018427387904) (hl : ∀ x ∈ l, 0 ≤ x ∧ x < 9223372036854775808) (hn : n ≤ 4611686018427387904) :
    Calls Try.prog 89 #[.int .i64 ways, .pointer (some ⟨za, 0, none⟩), .pointer (some ⟨zp, 0, none⟩)] w fun e w' => e = .returned (.int .i64 (pickR l k ways)) ∧ Pk w' za zp (min (k + 1) n) o n c l ∧ Chg w w' (fun q => q = za) := by
  have k0 := h.b0.cell
  have k1 := h.b1.cell
  have f0 := h.b0.frozen
  have hlen := h.sl.len
  have hle := h.le
  by_cases hk : k = n
  · have hp : pickR l k ways = 0 := by unfold pickR; rw [List.getElem?_eq_none (by omega)]
    have hm : min (k + 1) n = k := by omega
    subst hk
    rw [hp, hm]
    go_enter Try.func89, Try.ntmps89
    go_wp2
    go_ret
    exact ⟨rfl, h, Chg.refl _ _⟩
  · have hlt : k < l.length := by omega
    have hxm := hl l[k] (List.getElem_mem hlt)
    have hp : pickR l k ways = l[k] % ways := by unfold pickR; rw [List.getElem?_eq_getElem hlt]
    have hm : min (k + 1) n = k + 1 := by omega
    cases o with
    | none => exact absurd (h.sl.nil rfl) (by omega)
    | some a =>
      obtain ⟨xb, xi, rfl⟩ := h.sl.pl a rfl
      have hx := h.sl.k xb xi rfl k l[k] (List.getElem?_eq_getElem hlt)
      have hxa := h.na _ rfl
      simp only at hxa
      generalize l[k] = x at *
      rw [hp, hm]
      have hc := setCell_chg w za 0 (.int .i64 ((k : Int) + 1))
      have hP : Pk (w.setCell ⟨za, 0, none⟩ (.int .i64 ((k : Int) + 1))) za zp (k + 1) (some ⟨xb, xi, none⟩) n c l :=
        ⟨by have := h.b0.set (.int .i64 ((k : Int) + 1)); simpa using this, h.b1.other (fun e => h.ne e.symm) _, ⟨h.sl.len, h.sl.room, h.sl.top, h.sl.pl, h.sl.nil, fun b i e j x hx => hc.cell (h.sl.k b i e j x hx) (fun e2 => by cases e; exact hxa e2)⟩, by omega, h.ne, h.na⟩
      have d1 : (((k : Nat) : Int) == ((n : Nat) : Int)) = false := by simp; omega
      have b1 : (0 : Int) ≤ (k : Int) := by omega
      have b2 : (k : Int) < (n : Int) := by omega
      have hw0 : ¬ ways = 0 := by omega
      have hzz : ¬ zp = za := fun e => h.ne e.symm
      have hzz2 : ¬ za = zp := h.ne
      have p0 := hP.b0.cell
      have p1 := hP.b1.cell
      clear hp hm h hl
      go_enter Try.func89, Try.ntmps89
      go_wp2
      go_ret
      exact ⟨rfl, hP, hc⟩
end
end Go.Proofs.Ytgkeflgfnagnjaa
