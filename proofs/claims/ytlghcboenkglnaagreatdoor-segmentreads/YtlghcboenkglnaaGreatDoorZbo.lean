import Derived.Test.YtlghcboenkglnaaGreatDoorZbn
import Derived.Maps.AppendAt
import Derived.Test.YtlghcboenkglnaaGreatDoorZbc
import Derived.Test.YtlghcboenkglnaaGreatDoorZbd
/-
  The document's Crash: what stands between two files.
-/
namespace Go.Proofs.YtlghcboenkglnaaGreatDoor.Dsk
open Go.Proofs.YtlghcboenkglnaaGreatDoor
open Go.RowKit
set_option linter.unusedVariables false

/-- Between two files: the new disk at z with the files M, the picks P that were asked, what they were taken modulo. -/
structure Ci (w wr : World) (z : Nat) (M : List Rf) (P : List Int) (vp vo : Value) (m : Nat) : Prop where
  g : w.grownBy wr none
  hz : ∃ ro rc, wr.heap[z]? = some (.cells #[.slice ro M.length rc, .slice none 0 0, .int .i64 0] 116) ∧ Rr wr w.heap.size ro M.length rc M
  zl : w.heap.size ≤ z
  p : wr.ownsRow w.heap.size 3 1 vp P.length (P.map (.int .i64))
  o : ∃ xs, wr.ownsRow w.heap.size 3 1 vo m xs
  ap : ∀ a b, vp.ownBlock = some a → vo.ownBlock = some b → a ≠ b
theorem irow_kept {A V : World} {base n : Nat} {v : Value} {xs : List Value} {row : Option Nat} (h : A.ownsRow base 3 1 v n xs) (hg : A.grownBy V row) (hr : ∀ r, row = some r → v.ownBlock ≠ some r) : V.ownsRow base 3 1 v n xs := by
  refine ⟨h.1, ?_⟩
  rcases h.2 with h2 | ⟨g, c, cur, hv, hb, h6, h7⟩
  · exact .inl h2
  · refine .inr ⟨g, c, cur, hv, hb, (hg.block g (Array.getElem?_eq_some_iff.1 h6).1 (fun e => hr g e.symm (by rw [hv]; rfl))).trans h6, h7⟩
section
variable {w wr wr' : World} {z : Nat} {M : List Rf} {P : List Int} {vp vo : Value} {m : Nat}

theorem Ci.grown (h : Ci w wr z M P vp vo m) (hg : wr.grownBy wr' none) : Ci w wr' z M P vp vo m := by
  obtain ⟨ro, rc, h1, h2⟩ := h.hz
  obtain ⟨xs, h3⟩ := h.o
  exact ⟨grown_trans h.g hg (by simp), ⟨ro, rc, heap_kept hg h1 (by simp), h2.own hg (fun r e => by cases e)⟩, h.zl, irow_kept h.p hg (fun r e => by cases e), ⟨xs, irow_kept h3 hg (fun r e => by cases e)⟩, h.ap⟩
theorem Ci.rows (h : Ci w wr z M P vp vo m) {row : Option Nat} (hg : wr.grownBy wr' row) (hr : ∀ r, row = some r → w.heap.size ≤ r ∧ Ty wr r 3) : w.grownBy wr' none ∧ ∃ ro rc, wr'.heap[z]? = some (.cells #[.slice ro M.length rc, .slice none 0 0, .int .i64 0] 116) ∧ Rr wr' w.heap.size ro M.length rc M := by
  obtain ⟨ro, rc, h1, h2⟩ := h.hz
  refine ⟨grown_trans h.g hg (fun k e => Or.inr (hr k e).1), ro, rc, heap_kept hg h1 (fun e => ?_), h2.own hg (fun r e h9 => h9.ne (hr r e).2 (by decide) rfl)⟩
  exact ((hr z e.symm).2).ne (⟨_, _, h1⟩ : Ty wr z 116) (by decide) rfl
end
end Go.Proofs.YtlghcboenkglnaaGreatDoor.Dsk

/-
  The document's Crash: a file in hand, picks put behind picks.
-/
namespace Go.Proofs.YtlghcboenkglnaaGreatDoor.Dsk
open Go.Proofs.YtlghcboenkglnaaGreatDoor
open Go.RowKit
set_option linter.unusedVariables false

/-- A file in hand at zf. -/
structure Cj (w W : World) (z : Nat) (M : List Rf) (P : List Int) (vp vo : Value) (m zf : Nat) (f : Rf) : Prop where
  c : Ci w W z M P vp vo m
  k : W.heap[zf]? = some (.cells #[.string f.s, .string ⟨f.bs.toArray⟩, .int .i64 (f.la : Int), .bool f.th, .bool f.nl] 143)
  n : ∀ ro n rc, W.cell? ⟨z, 0, none⟩ = some (.slice ro n rc) → blk ro ≠ some zf
section
variable {w W W' : World} {z : Nat} {M : List Rf} {P : List Int} {vp vo : Value} {m zf : Nat} {f : Rf}

theorem Cj.new (h : Ci w W z M P vp vo m) : Cj w (W.alloc (.cells #[.string f.s, .string ⟨f.bs.toArray⟩, .int .i64 (f.la : Int), .bool f.th, .bool f.nl] 143)) z M P vp vo m W.heap.size f := by
  have ga := alloc_grown W (.cells #[.string f.s, .string ⟨f.bs.toArray⟩, .int .i64 (f.la : Int), .bool f.th, .bool f.nl] 143)
  refine ⟨h.grown ga, World.alloc_heap_new W _, fun ro n rc hc e => ?_⟩
  obtain ⟨ro0, rc0, h1, h2⟩ := h.hz
  have h3 := ga.cell (cell_of (i := 0) (v := .slice ro0 M.length rc0) h1 rfl) (by simp)
  rw [h3] at hc
  cases hc
  have := (h2.from_base _ e).2
  omega
theorem Cj.keep {P' : List Int} {vp' vo' : Value} {m' : Nat} {row : Option Nat} (h : Cj w W z M P vp vo m zf f) (hg : W.grownBy W' row) (hr : ∀ r, row = some r → Ty W r 3) (hC : Ci w W' z M P' vp' vo' m') : Cj w W' z M P' vp' vo' m' zf f := by
  have tz : Ty W zf 143 := ⟨_, _, h.k⟩
  obtain ⟨ro0, rc0, h1, h2⟩ := h.c.hz
  have t9 : Ty W z 116 := ⟨_, _, h1⟩
  refine ⟨hC, heap_kept hg h.k (fun e => (hr zf e.symm).ne tz (by decide) rfl), fun ro n rc hc e => ?_⟩
  have h3 := heap_kept hg h1 (fun e => (hr z e.symm).ne t9 (by decide) rfl)
  have h4 := cell_of (i := 0) (v := .slice ro0 M.length rc0) h3 rfl
  rw [h4] at hc
  cases hc
  exact h.n _ _ _ (cell_of (i := 0) (v := .slice ro0 M.length rc0) h1 rfl) e
theorem Cj.cells (h : Cj w W z M P vp vo m zf f) : W.cell? ⟨zf, 0, none⟩ = some (.string f.s) ∧ W.cell? ⟨zf, 1, none⟩ = some (.string ⟨f.bs.toArray⟩) ∧ W.cell? ⟨zf, 2, none⟩ = some (.int .i64 (f.la : Int)) ∧ W.cell? ⟨zf, 3, none⟩ = some (.bool f.th) ∧ W.cell? ⟨zf, 4, none⟩ = some (.bool f.nl) :=
  ⟨cell_of (i := 0) h.k rfl, cell_of (i := 1) h.k rfl, cell_of (i := 2) h.k rfl, cell_of (i := 3) h.k rfl, cell_of (i := 4) h.k rfl⟩
end

/-- What a file that is not gone leaves. -/
def cgU (l : List Int) (n : Nat) (f : Rf) : List Int × List Rf :=
  if (f.th && decide (f.la < f.bs.length)) = true then ([pickR l n ((f.bs.length - f.la + 1 : Nat) : Int)], [⟨f.s, f.bs.take (f.la + (pickR l n ((f.bs.length - f.la + 1 : Nat) : Int)).toNat), f.la + (pickR l n ((f.bs.length - f.la + 1 : Nat) : Int)).toNat, true, true⟩])
  else ([], [⟨f.s, f.bs.take f.la, f.la, true, true⟩])
/-- What a file leaves: the picks, and the file or none. -/
def cgF (l : List Int) (n : Nat) (f : Rf) : List Int × List Rf :=
  if (!f.th || !f.nl) = true then
    if pickR l n 2 = 0 then ([0], []) else (pickR l n 2 :: (cgU l (n + 1) f).1, (cgU l (n + 1) f).2)
  else cgU l n f
def cgS (l : List Int) (st : List Int × List Rf) (f : Rf) : List Int × List Rf := (st.1 ++ (cgF l st.1.length f).1, st.2 ++ (cgF l st.1.length f).2)
end Go.Proofs.YtlghcboenkglnaaGreatDoor.Dsk

/-
  What a crash keeps, by the program's picks and by the document's.
-/
namespace Go.Proofs.YtlghcboenkglnaaGreatDoor.Dsk
open Go.Proofs.YtlghcboenkglnaaGreatDoor
open Go.RowKit
set_option linter.unusedVariables false

/-- Of a file that may come back all lasts. -/
def Gd (L : List Rf) : Prop := ∀ f ∈ L, f.la ≤ f.bs.length ∧ (f.th = false → f.la = f.bs.length)
theorem pick_min (l : List Int) (p : Nat) (z : Int) : pickR l (min p l.length) z = pickR l p z := by
  unfold pickR
  rcases Nat.lt_or_ge p l.length with h | h
  · rw [show min p l.length = p by omega]
  · rw [show min p l.length = l.length by omega, List.getElem?_eq_none (Nat.le_refl _), List.getElem?_eq_none h]
theorem stay_cg (l : List Int) (p : Nat) (f : Rf) (h1 : f.la ≤ f.bs.length) (h2 : f.th = false → f.la = f.bs.length) :
    (staysR l l.length (min p l.length) f.bs.length f.la f.th f.nl).2.2 = min (p + (cgF l p f).1.length) l.length ∧
    ((staysR l l.length (min p l.length) f.bs.length f.la f.th f.nl).2.1 = false → (cgF l p f).2 = []) ∧
    ((staysR l l.length (min p l.length) f.bs.length f.la f.th f.nl).2.1 = true → (staysR l l.length (min p l.length) f.bs.length f.la f.th f.nl).1.toNat ≤ f.bs.length ∧ (cgF l p f).2 = [⟨f.s, f.bs.take (staysR l l.length (min p l.length) f.bs.length f.la f.th f.nl).1.toNat, (staysR l l.length (min p l.length) f.bs.length f.la f.th f.nl).1.toNat, true, true⟩]) := by
  have hp := pick_min l p
  have hp1 : ∀ z, pickR l (min (min p l.length + 1) l.length) z = pickR l (p + 1) z := fun z => by
    rw [show min (min p l.length + 1) l.length = min (p + 1) l.length by omega]
    exact pick_min l (p + 1) z
  have hc : ((f.bs.length - f.la + 1 : Nat) : Int) = (f.bs.length : Int) - f.la + 1 := by omega
  unfold staysR cgF cgU
  rw [hp, hc]
  by_cases hA : (!f.th || !f.nl) = true
  · rw [if_pos hA, if_pos hA]
    by_cases hz : pickR l p 2 = 0
    · rw [if_pos hz, if_pos hz]
      simp only [List.length_cons, List.length_nil]
      exact ⟨(by omega), (by simp), (by simp)⟩
    · rw [if_neg hz, if_neg hz]
      by_cases hs : (f.bs.length : Int) - f.la = 0
      · have hd : (f.th && decide (f.la < f.bs.length)) = false := by simp; intro _; omega
        rw [if_pos hs, if_neg (by simp [hd])]
        simp only [List.length_cons, List.length_nil, Int.toNat_natCast]
        refine ⟨(by omega), (fun e => by cases e), fun _ => ⟨Nat.le_refl _, ?_⟩⟩
        rw [show f.la = f.bs.length by omega]
      · have ht : f.th = true := by
          cases e : f.th with
          | true => rfl
          | false => exact absurd (h2 e) (by omega)
        have hd : (f.th && decide (f.la < f.bs.length)) = true := by simp [ht]; omega
        rw [if_neg hs, if_pos hd, hp1]
        obtain ⟨q0, q1⟩ := pickR_range l (p + 1) ((f.bs.length : Int) - f.la + 1) (by omega)
        simp only [List.length_cons, List.length_nil]
        generalize pickR l (p + 1) ((f.bs.length : Int) - f.la + 1) = x at *
        have e9 : ((f.la : Int) + x).toNat = f.la + x.toNat := by omega
        refine ⟨(by omega), (fun e => by cases e), fun _ => ⟨(by omega), ?_⟩⟩
        rw [e9]
  · rw [if_neg hA, if_neg hA]
    by_cases hs : (f.bs.length : Int) - f.la = 0
    · have hd : (f.th && decide (f.la < f.bs.length)) = false := by simp; intro _; omega
      rw [if_pos hs, if_neg (by simp [hd])]
      simp only [List.length_nil, Int.toNat_natCast]
      refine ⟨(by omega), (fun e => by cases e), fun _ => ⟨Nat.le_refl _, ?_⟩⟩
      rw [show f.la = f.bs.length by omega]
    · have ht : f.th = true := by
        cases e : f.th with
        | true => rfl
        | false => exact absurd (h2 e) (by omega)
      have hd : (f.th && decide (f.la < f.bs.length)) = true := by simp [ht]; omega
      rw [if_neg hs, if_pos hd, hp]
      obtain ⟨q0, q1⟩ := pickR_range l p ((f.bs.length : Int) - f.la + 1) (by omega)
      simp only [List.length_cons, List.length_nil]
      generalize pickR l p ((f.bs.length : Int) - f.la + 1) = x at *
      have e9 : ((f.la : Int) + x).toNat = f.la + x.toNat := by omega
      refine ⟨(by omega), (fun e => by cases e), fun _ => ⟨(by omega), ?_⟩⟩
      rw [e9]
/-- The program's crash and the document's, behind these files. -/
structure Cg (l : List Int) (pre : List Rf) (a : (ByteArray → Option Nat) × Nat) (c : List Int × List Rf) : Prop where
  k : a.2 = min c.1.length l.length
  sub : (c.2.map (·.s)).Sublist (pre.map (·.s))
  no : ∀ s, a.1 s = none → lk c.2 s = none
  yes : ∀ s z, a.1 s = some z → ∃ f, lk pre s = some f ∧ z ≤ f.bs.length ∧ lk c.2 s = some ⟨s, f.bs.take z, z, true, true⟩
theorem lk_app (L K : List Rf) (s : ByteArray) : lk (L ++ K) s = (lk L s).or (lk K s) := by
  unfold lk
  rw [List.find?_append]
theorem lk_one (f : Rf) (s : ByteArray) : lk [f] s = if f.s = s then some f else none := by
  unfold lk
  by_cases e : f.s = s <;> simp [e, List.find?]
theorem Cg.step {l : List Int} {pre : List Rf} {f : Rf} {a : (ByteArray → Option Nat) × Nat} {c : List Int × List Rf} (h : Cg l pre a c) (hn : lk pre f.s = none) (h1 : f.la ≤ f.bs.length) (h2 : f.th = false → f.la = f.bs.length) : Cg l (pre ++ [f]) (crashS l l.length a f.td) (cgS l c f) := by
  obtain ⟨e1, e2, e3⟩ := stay_cg l c.1.length f h1 h2
  have hk := h.k
  have hnc : lk c.2 f.s = none := by
    rw [lk_none] at hn ⊢
    intro g hg e
    have h5 : f.s ∈ pre.map (·.s) := h.sub.subset (List.mem_map.2 ⟨g, hg, e⟩)
    obtain ⟨g2, hg2, e2⟩ := List.mem_map.1 h5
    exact hn g2 hg2 e2
  have hcs : crashS l l.length a f.td = (if (staysR l l.length a.2 f.bs.length f.la f.th f.nl).2.1 = true then (fun x => if x = f.s then some (staysR l l.length a.2 f.bs.length f.la f.th f.nl).1.toNat else a.1 x) else a.1, (staysR l l.length a.2 f.bs.length f.la f.th f.nl).2.2) := rfl
  rw [hcs, hk]
  unfold cgS
  by_cases ht : (staysR l l.length (min c.1.length l.length) f.bs.length f.la f.th f.nl).2.1 = true
  · obtain ⟨q1, q2⟩ := e3 ht
    rw [if_pos ht, q2]
    generalize (staysR l l.length (min c.1.length l.length) f.bs.length f.la f.th f.nl).1.toNat = z0 at *
    refine ⟨by simp only [List.length_append]; exact e1, ?_, fun s hs => ?_, fun s z hs => ?_⟩
    · simp only [List.map_append, List.map_cons, List.map_nil]
      exact h.sub.append (List.Sublist.refl _)
    · simp only at hs
      by_cases e : s = f.s
      · rw [if_pos e] at hs; cases hs
      · rw [if_neg e] at hs
        rw [lk_app, h.no s hs, lk_one, if_neg (fun e9 => e e9.symm)]
        rfl
    · simp only at hs
      by_cases e : s = f.s
      · rw [if_pos e] at hs
        cases hs
        subst e
        refine ⟨f, by rw [lk_app, hn, lk_one, if_pos rfl]; rfl, q1, ?_⟩
        rw [lk_app, hnc, lk_one, if_pos rfl]
        rfl
      · rw [if_neg e] at hs
        obtain ⟨g, g1, g2, g3⟩ := h.yes s z hs
        exact ⟨g, by rw [lk_app, g1]; rfl, g2, by rw [lk_app, g3]; rfl⟩
  · rw [if_neg ht, e2 (by simpa using ht)]
    refine ⟨by simp only [List.length_append]; exact e1, ?_, fun s hs => ?_, fun s z hs => ?_⟩
    · simp only [List.append_nil, List.map_append]
      exact h.sub.trans (List.sublist_append_left _ _)
    · simpa using h.no s hs
    · obtain ⟨g, g1, g2, g3⟩ := h.yes s z hs
      exact ⟨g, by rw [lk_app, g1]; rfl, g2, by simpa using g3⟩
theorem Cg.all {l : List Int} : ∀ (L pre : List Rf) (a : (ByteArray → Option Nat) × Nat) (c : List Int × List Rf), Srt (pre ++ L) → Gd L → Cg l pre a c → Cg l (pre ++ L) ((L.map Rf.td).foldl (crashS l l.length) a) (L.foldl (cgS l) c)
  | [], pre, a, c, _, _, h => by simpa using h
  | f :: L, pre, a, c, hs, hg, h => by
    have hn : lk pre f.s = none := by
      rw [lk_none]
      intro g hg2
      have := List.pairwise_append.1 hs
      exact (this.2.2 g hg2 f (by simp)).ne
    have hf := hg f (by simp)
    have := Cg.all L (pre ++ [f]) _ _ (by simpa using hs) (fun g hg2 => hg g (by simp [hg2])) (h.step hn hf.1 hf.2)
    simpa using this
theorem srt_names {L : List Rf} : Srt L ↔ (L.map (·.s)).Pairwise Ahead := List.pairwise_map.symm
theorem Cg.srt {l : List Int} {L : List Rf} {a : (ByteArray → Option Nat) × Nat} {c : List Int × List Rf} (h : Cg l L a c) (hs : Srt L) : Srt c.2 := srt_names.2 ((srt_names.1 hs).sublist h.sub)
end Go.Proofs.YtlghcboenkglnaaGreatDoor.Dsk

/-
  Crash with a pick below nought.
-/
namespace Go.Proofs.YtlghcboenkglnaaGreatDoor.Dsk
open Go.Proofs.YtlghcboenkglnaaGreatDoor
open Go.RowKit Go.Maps Go.Sort Go.Shelf
set_option linter.unusedVariables false
set_option linter.unusedSectionVars false
variable [FO : Inhabited (Nat → Prop)]
attribute [local go_sem] Oper.semAt_some

section
variable {w w' : World} {b m : Nat} {fs : List (Int × Int)} {st : Int} {n : Nat} {D : DataW Unit}

end
end Go.Proofs.YtlghcboenkglnaaGreatDoor.Dsk

/-
  The program's New, Copy, Crash, in the document's words.
-/
namespace Go.Proofs.YtlghcboenkglnaaGreatDoor.Dsk
open Go.Proofs.YtlghcboenkglnaaGreatDoor
open Go.RowKit Go.Maps Go.WideMaps Go.Sort Go.Shelf
set_option linter.unusedVariables false

section
variable {w w' : World} {b m base : Nat} {fs fs' : List (Int × Int)} {st st' : Int} {n i i' : Nat} {D : DataW Unit} {X : Nat → Fm} {B : Nat → List UInt8} {T T' : Nat → Prop} {L : List Rf}

/-- What is new from here on. -/
def Nw (w w' : World) : Nat → Prop := fun k => w.heap.size ≤ k ∧ k < w'.heap.size
theorem Ds.fresh {w0 : World} (h : @Ds ⟨T⟩ w b m fs st n D) (hb : w0.heap.size ≤ b) : @Ds ⟨Nw w0 w⟩ w b m fs st n D := by
  obtain ⟨⟨fo, fn, fc, a1, a2, a3⟩, a4⟩ := h
  refine @Ds.mk ⟨Nw w0 w⟩ _ _ _ _ _ _ _ ⟨fo, fn, fc, a1, a2, fun a e => ?_⟩ a4
  obtain ⟨h1, h2, ⟨h3, h4⟩, h5⟩ := a3 a e
  exact ⟨h1, h2, ⟨h3, ⟨by omega, h5.ty.lt⟩⟩, h5⟩
/-- New. -/
theorem new_p {o : Option Addr} {k c : Nat} {l : List (Int × Int)} (hf : Ft w o k c l) (hn : k ≤ 100) (hob : ∀ a, o = some a → a.block < w.heap.size) :
    Calls Tryz.prog 10 #[.slice o k c] w fun e w' => (fw l = false ∧ e = .returned (.tuple #[.pointer none, .int .i64 2]) ∧ w.grownBy w' none) ∨ (fw l = true ∧ ∃ b, e = .returned (.tuple #[.pointer (some ⟨b, 0, none⟩), .int .i64 0]) ∧ Pv w' (Nw w w') b [] l 0 0 ∧ w.grownBy w' none) := by
  letI FO : Inhabited (Nat → Prop) := ⟨fun k => w.heap.size ≤ k⟩
  refine (new_any (fun q hq => hq) hf (by omega) hob).mono ?_
  rintro e w2 (⟨h0, rfl, hg⟩ | ⟨h0, rfl, hd, hg⟩)
  · exact .inl ⟨h0, rfl, hg⟩
  · refine .inr ⟨h0, _, rfl, ?_, hg⟩
    have hl := hf.len
    have hdl : w.heap.size + 1 < w2.heap.size := by
      obtain ⟨fo, fn, fc, hd1, _⟩ := hd.ex
      exact hd1.lt
    letI FO : Inhabited (Nat → Prop) := ⟨Nw w w2⟩
    have hd2 := hd.fresh (w0 := w) (by omega)
    have hI := Iv.new hd2 (by omega) (Nat.zero_le _) (Nat.zero_le _) (Nat.zero_le _)
    refine ⟨⟨_, _, _, _, _, hI, fun s => at_none s, ⟨Nat.le_refl _, by omega⟩, fun s g hg => ?_⟩, by simp [Srt], ⟨by omega, hdl⟩, fun k hk => hk.2⟩
    have := at_has hg
    simp [has_eq] at this
theorem size_keys (h : Mp w m n D) : Maps.size D = (strKeys D).length := by
  obtain ⟨es, rfl, _, _⟩ := h.entries (string_keyed Tryz.underlying9)
  rw [size_eq]
  simp [strKeys]
/-- A disk made anew whose files are told by name. -/
theorem Pv.make {D' : DataW Unit} {nb nm n' base : Nat} {w0 : World} (hd : @Ds ⟨T⟩ w' nb nm fs st n' D') (hb0 : w0.heap.size ≤ nb) (hm0 : w0.heap.size ≤ nm) (hbb : nb < base) (hz : Nz D') (hn' : n' ≤ i) (h0 : 0 ≤ st) (h1 : st ≤ i) (hfl : fs.length ≤ 100 + 100 * i) (hso : Srt L) (hLl : L.length ≤ i) (hLw : ∀ f ∈ L, f.la ≤ f.bs.length ∧ f.bs.length ≤ 3000 * i ∧ nameB f.s = true)
    (hno : ∀ s, lk L s = none → at? D' s none)
    (hyes : ∀ s f, lk L s = some f → ∃ g bo bc, at? D' s (some g) ∧ base ≤ g ∧ Fl w' g bo f.bs.length bc (f.la : Int) f.th f.nl ∧ Ow w' base 5 bo f.bs.length bc f.bs)
    (hinj : ∀ s s' g, at? D' s (some g) → at? D' s' (some g) → s = s')
    (hap : ∀ s s' g g' bo k c bo' k' c' q, at? D' s (some g) → at? D' s' (some g') → w'.cell? ⟨g, 0, none⟩ = some (.slice bo k c) → w'.cell? ⟨g', 0, none⟩ = some (.slice bo' k' c') → blk bo = some q → blk bo' = some q → g = g') : Pv w' (Nw w0 w') nb L fs st i := by
  have hex : ∀ g, ∃ x : Fm × List UInt8, ∀ s, at? D' s (some g) → ∃ f, lk L s = some f ∧ base ≤ g ∧ FlX w' g x.1 ∧ Ow w' base 5 x.1.bo x.1.bn x.1.bc x.2 ∧ x.1.bn = f.bs.length ∧ x.1.la = (f.la : Int) ∧ x.1.th = f.th ∧ x.1.nl = f.nl ∧ x.2 = f.bs := fun g => by
    by_cases hx : ∃ s, at? D' s (some g)
    · obtain ⟨s, hs⟩ := hx
      cases hl : lk L s with
      | none => have := at_one hs (hno s hl); cases this
      | some f =>
        obtain ⟨g', bo, bc, k1, k2, k3, k4⟩ := hyes s f hl
        obtain rfl : g = g' := by simpa using at_one hs k1
        refine ⟨(⟨bo, f.bs.length, bc, (f.la : Int), f.th, f.nl⟩, f.bs), fun s' hs' => ?_⟩
        obtain rfl := hinj s s' g hs hs'
        exact ⟨f, hl, k2, k3, k4, rfl, rfl, rfl, rfl, rfl⟩
    · exact ⟨(⟨none, 0, 0, 0, true, false⟩, []), fun s hs => absurd ⟨s, hs⟩ hx⟩
  obtain ⟨Y, hY⟩ := Classical.skolem.1 hex
  have hmp : Mp w' nm n' D' := @Ds.mp ⟨T⟩ _ _ _ _ _ _ _ hd
  have hbl : nb < w'.heap.size := by
    obtain ⟨fo, fn, fc, hd1, _⟩ := @Ds.ex ⟨T⟩ _ _ _ _ _ _ _ hd
    exact hd1.lt
  letI FO : Inhabited (Nat → Prop) := ⟨Nw w0 w'⟩
  have hd2 := hd.fresh (w0 := w0) hb0
  have hlt : w0.heap.size ≤ base := by omega
  have hM : ∀ s, Mt D' (fun g => (Y g).1) (fun g => (Y g).2) s (lk L s) := fun s => by
    cases hl : lk L s with
    | none => exact hno s hl
    | some f =>
      obtain ⟨g, bo, bc, k1, _⟩ := hyes s f hl
      obtain ⟨f2, r0, _, _, _, r1, r2, r3, r4, r5⟩ := hY g s k1
      rw [hl] at r0
      cases r0
      exact ⟨g, k1, r1, r2, r3, r4, r5⟩
  have hsz : Maps.size D' ≤ i := by
    have h9 := congrArg List.length (keys_sorted hmp hz hM hso (List.Perm.refl (strKeys D')))
    rw [List.length_mergeSort, List.length_map] at h9
    rw [size_keys hmp]
    omega
  have hI : Iv w' nb nm 0 fs st n' D' (fun g => (Y g).1) (fun g => (Y g).2) i :=
    ⟨hd2, h0, h1, fun s g hg => by obtain ⟨f, _, _, q, _⟩ := hY g s hg; exact q,
     fun s g hg => by obtain ⟨f, _, _, _, q, _⟩ := hY g s hg; exact q.rebase (Nat.zero_le _),
     fun s g hg => by
      obtain ⟨f, q0, _, _, _, q1, q2, _⟩ := hY g s hg
      have := hLw f (lk_mem q0)
      exact ⟨f.la, q2, by simp only [q1]; omega, by simp only [q1]; omega⟩,
     hinj, fun s g hg => by obtain ⟨f, _, q, _⟩ := hY g s hg; omega,
     fun s g hg e => by obtain ⟨f, _, _, _, q, _⟩ := hY g s hg; have := (q.from_base nb e).1; omega,
     fun s g hg => Nat.zero_le _,
     fun s s' g g' q hg hg' e1 e2 => by
      obtain ⟨f, _, _, q1, _⟩ := hY g s hg
      obtain ⟨f', _, _, q2, _⟩ := hY g' s' hg'
      exact hap s s' g g' _ _ _ _ _ _ q hg hg' q1.c0 q2.c0 e1 e2,
     hz, hsz, hn', Nat.zero_le _, Nat.zero_le _, Nat.zero_le _, hfl,
     fun s g hg => by obtain ⟨f, q0, _⟩ := hY g s hg; have := (hLw f (lk_mem q0)).2.2; rwa [lk_name q0] at this⟩
  exact ⟨⟨nm, n', D', _, _, hI, hM, ⟨hm0, hmp.lt⟩, fun s g hg => by
    obtain ⟨f, _, q0, q1, q2, _⟩ := hY g s hg
    exact ⟨⟨by omega, q1.lt⟩, fun q hq => ⟨by have := (q2.from_base q hq).1; omega, (q2.from_base q hq).2⟩⟩⟩, hso, ⟨hb0, hbl⟩, fun k hk => hk.2⟩
end
end Go.Proofs.YtlghcboenkglnaaGreatDoor.Dsk

/-
  An index with a memory of its own.
-/
namespace Go.Proofs.YtlghcboenkglnaaGreatDoor
open Go.RowKit
set_option linter.unusedVariables false

/-- The index at b, whose memory is U. -/
structure Xu (w : World) (U : Nat → Prop) (b : Nat) (st : Int) (l : List Idx.Sd) : Prop where
  ex : ∃ ro rc, Idx.Ix w b st ro l.length rc ∧ Idx.Sw w 0 ro l.length rc l ∧ ∀ q, blk ro = some q → U q
  ub : U b
  lt : ∀ k, U k → k < w.heap.size
section
variable {w w' : World} {U : Nat → Prop} {b base : Nat} {st : Int} {l : List Idx.Sd}
theorem Xu.chg {S : Nat → Prop} (h : Xu w U b st l) (hc : Chg w w' S) (hS : ∀ k, U k → ¬ S k) : Xu w' U b st l := by
  obtain ⟨⟨ro, rc, h1, h2, h3⟩, h4, h5⟩ := h
  exact ⟨⟨ro, rc, h1.chg hc (hS b h4), h2.chg hc (fun q hq => hS q (h3 q hq)), h3⟩, h4, fun k hk => Nat.lt_of_lt_of_le (h5 k hk) hc.size⟩
theorem Xu.grown (h : Xu w U b st l) (hg : w.grownBy w' none) : Xu w' U b st l := h.chg (Chg.of_grown hg (fun _ => False)) (fun _ _ e => e)
theorem Xu.xd (h : Xu w U b st l) (hl : l.length ≤ 100000) : Idx.Xd w 0 b st l := by
  obtain ⟨⟨ro, rc, h1, h2, h3⟩, h4, h5⟩ := h
  exact ⟨⟨ro, rc, h1, h2⟩, Nat.zero_le _, hl⟩
theorem Xu.of {w0 : World} (h : Idx.Xd w base b st l) (hb : w0.heap.size ≤ base) : Xu w (Dsk.Nw w0 w) b st l := by
  obtain ⟨⟨ro, rc, h1, h2⟩, h3, h4⟩ := h
  exact ⟨⟨ro, rc, h1, h2.rebase (Nat.zero_le _), fun q hq => ⟨Nat.le_trans hb (h2.from_base q hq).1, (h2.from_base q hq).2⟩⟩, ⟨by omega, h1.lt⟩, fun k hk => hk.2⟩
/-- Add. -/
theorem Xu.add (h : Xu w U b st l) (hD : Idx.Dt w) (hgood : Idx.Good l) (h1 : 1 ≤ st) (hlen : l.length < 100000) (s : Idx.Sd) :
    Calls Tryz.prog 105 #[.pointer (some ⟨b, 0, none⟩), s.val] w fun e w' => (∃ v, e = .returned v) ∧ (∃ U', Xu w' U' b st (Idx.addR st l s).2.2 ∧ ∀ k, U' k → U k ∨ w.heap.size ≤ k) ∧ Chg w w' U := by
  obtain ⟨⟨ro, rc, hi, hr, hu⟩, hb, hlt⟩ := h
  refine (Idx.add_anyL hi hr (Nat.zero_le _) hD hgood h1 hlen s).mono ?_
  rintro e w2 ⟨rfl, ⟨ro2, rc2, hi2, hr2, hl2⟩, hc⟩
  have hc2 : Chg w w2 U := hc.mono (fun k _ e => by
    rcases e with e | e
    · rw [e]; exact hb
    · exact hu k e)
  refine ⟨⟨_, rfl⟩, ⟨fun k => (U k ∨ w.heap.size ≤ k) ∧ k < w2.heap.size, ⟨⟨ro2, rc2, hi2, hr2, fun q hq => ⟨?_, (hr2.from_base q hq).2⟩⟩, ⟨.inl hb, hi2.lt⟩, fun k hk => hk.2⟩, fun k hk => hk.1⟩, hc2⟩
  rcases hl2 with e | e
  · exact .inl (hu q (by rw [← e]; exact hq))
  · exact .inr (e q hq)
end
end Go.Proofs.YtlghcboenkglnaaGreatDoor
