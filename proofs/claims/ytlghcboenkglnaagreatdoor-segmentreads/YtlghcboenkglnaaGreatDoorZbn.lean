import Derived.Test.YtlghcboenkglnaaGreatDoorZbl
import Derived.Test.YtlghcboenkglnaaGreatDoorZbm
import Derived.Test.YtlghcboenkglnaaGreatDoorDskIx
import Derived.OwnWalkIn
import Derived.Maps.AppendAt
import Derived.Test.YtlghcboenkglnaaGreatDoorZbk
import Derived.Test.YtlghcboenkglnaaGreatDoorZbj
import Derived.Laws.IdiomStrings
/-
  Crash of any disk that is there.
-/
namespace Go.Proofs.YtlghcboenkglnaaGreatDoor.Dsk
open Go.Proofs.YtlghcboenkglnaaGreatDoor
open Go.RowKit Go.Maps Go.Shelf
set_option linter.unusedVariables false
set_option linter.unusedSectionVars false
variable [FO : Inhabited (Nat → Prop)]
attribute [local go_sem] Oper.semAt_some

/-- The files of a disk, by name, with their bytes. -/
def FilesB (w : World) (D : DataW Unit) (T : List UInt8 → Td) (B : ByteArray → List UInt8) : Prop :=
  ∀ s ∈ strKeys D, (T s).s = ⟨s.toArray⟩ ∧ s.length ≤ 32 ∧ (∃ la : Nat, (T s).la = (la : Int) ∧ la ≤ (T s).sz) ∧ (T s).sz ≤ 16777216 ∧ ∃ g bo bc, at? D ⟨s.toArray⟩ (some g) ∧ Fl w g bo (T s).sz bc (T s).la (T s).th (T s).nl ∧ Bs w bo (T s).sz bc (B ⟨s.toArray⟩) ∧ (∀ a, bo = some a → ∃ q i, a = ⟨q, i, none⟩) ∧ ∀ q, blk bo = some q → Ty w q 5
theorem FilesB.files {w : World} {D : DataW Unit} {T : List UInt8 → Td} {B : ByteArray → List UInt8} (h : FilesB w D T B) : Files w D T := fun s hs => by
  obtain ⟨h1, h2, _, _, g, bo, bc, h3, h4, _⟩ := h s hs
  exact ⟨h1, h2, g, bo, bc, h3, h4⟩
theorem FilesB.chg {w w' : World} {D : DataW Unit} {T : List UInt8 → Td} {B : ByteArray → List UInt8} {S : Nat → Prop} (h : FilesB w D T B) (hc : Chg w w' S) (hS : ∀ k, k < w.heap.size → S k → ¬ Ty w k 157 ∧ ¬ Ty w k 5) : FilesB w' D T B := fun s hs => by
  obtain ⟨h1, h2, h3, h4, g, bo, bc, h5, h6, h7, h8, h9⟩ := h s hs
  have hn : ∀ q, blk bo = some q → ¬ S q := fun q e k => (hS q (h9 q e).lt k).2 (h9 q e)
  refine ⟨h1, h2, h3, h4, g, bo, bc, h5, h6.chg hc (fun k => (hS g h6.lt k).1 h6.ty), ⟨h7.len, h7.room, h7.top, h7.nil, fun a ha j u hu => hc.cell (h7.cells a ha j u hu) ?_⟩, h8, fun q e => (h9 q e).chg hc (hn q e)⟩
  rw [add_block]
  obtain ⟨q, i, rfl⟩ := h8 a ha
  exact hn q (by rw [ha]; rfl)
theorem Ds.grown {w w' : World} {b m : Nat} {fs : List (Int × Int)} {st : Int} {n : Nat} {D : DataW Unit} (h : Ds w b m fs st n D) (hg : w.grownBy w' none) : Ds w' b m fs st n D := h.chg (Chg.of_grown hg (fun _ => False)) (fun e => e) (fun e => e) (fun k e => e.elim)
theorem FilesB.grown {w w' : World} {D : DataW Unit} {T : List UInt8 → Td} {B : ByteArray → List UInt8} (h : FilesB w D T B) (hg : w.grownBy w' none) : FilesB w' D T B := h.chg (Chg.of_grown hg (fun _ => False)) (fun k _ e => e.elim)
theorem _root_.Go.Proofs.YtlghcboenkglnaaGreatDoor.Chg.ext {w A B : World} {S : Nat → Prop} {row : Option Nat} (h : Chg w A S) (hg : A.grownBy B row) (hr : ∀ q, row = some q → w.heap.size ≤ q) : Chg w B S :=
  ⟨hg.os.trans h.os, hg.tape.trans h.tape, hg.output.trans h.output, Nat.le_trans h.size hg.size, fun k hk hn => (hg.block k (Nat.lt_of_lt_of_le hk h.size) (fun e => by have := hr k e.symm; omega)).trans (h.block k hk hn)⟩
theorem not_cells_ty {w : World} {k : Nat} {t : TypeId} (h : ∃ o : Obj, w.heap[k]? = some o ∧ o.isCells = false) (ht : Ty w k t) : False := by
  obtain ⟨o, h1, h2⟩ := h
  obtain ⟨cs, fr, h3⟩ := ht
  rw [h1] at h3
  cases h3
  cases h2
/-- Between two rounds. -/
def Btw (w6 : World) (za zp : Nat) (o : Option Addr) (pn pc : Nat) (l : List Int) (nm base : Nat) (B : ByteArray → List UInt8) (pre : List Td) (W : World) : Prop :=
  ∃ n' D', Pk W za zp (crashF l pn pre).2 o pn pc l ∧ Mp W nm n' D' ∧ n' ≤ pre.length ∧ Kept W base D' (crashF l pn pre).1 B ∧ Chg w6 W (fun q => q = za ∨ q = nm)
theorem Btw.own {w6 : World} {za zp : Nat} {o : Option Addr} {pn pc : Nat} {l : List Int} {nm : Nat} {B : ByteArray → List UInt8} (ho : ∀ a, o = some a → a.block < w6.heap.size) (hn : nm < w6.heap.size) : OwnFrom w6.heap.size (Btw w6 za zp o pn pc l nm w6.heap.size B) := by
  rintro s A V row ⟨n', D', h1, h2, h3, h4, h5⟩ hg hr
  refine ⟨n', D', ⟨box_own h1.b0 hg (fun r e => (hr r e).2), box_own h1.b1 hg (fun r e => (hr r e).2), ⟨h1.sl.len, h1.sl.room, h1.sl.top, h1.sl.pl, h1.sl.nil, fun b i e j x hx => hg.cell (h1.sl.k b i e j x hx) (fun e9 => by have := (hr _ e9.symm).1; have := ho _ e; simp only at *; omega)⟩, h1.le, h1.ne, h1.na⟩, h2.chg (chg_grown hg) (fun e => by have := (hr _ e).1; omega), h3, h4.chg (chg_grown hg) (fun k t e _ ht => not_cells_ty (hr k e).2 ht), h5.ext hg (fun q e => (hr q e).1)⟩
section
variable {w w' : World} {b m : Nat} {fs : List (Int × Int)} {st : Int} {n : Nat} {D : DataW Unit}

end
end Go.Proofs.YtlghcboenkglnaaGreatDoor.Dsk

/-
  What a crash and All ask of a disk's files, out of what calls keep.
-/
namespace Go.Proofs.YtlghcboenkglnaaGreatDoor.Dsk
open Go.Proofs.YtlghcboenkglnaaGreatDoor
open Go.RowKit Go.Maps Go.WideMaps Go.Sort Go.Shelf
set_option linter.unusedVariables false
set_option linter.unusedSectionVars false
variable [FO : Inhabited (Nat → Prop)]

theorem keys_at {D : DataW Unit} (hz : Nz D) {s : List UInt8} (h : s ∈ strKeys D) (hk : Maps.has D (.string s) = true) : ∃ g, at? D ⟨s.toArray⟩ (some g) := by
  obtain ⟨g, hg⟩ := hz (.string s) (D.atKey (.string s) .nil) (fun zd => atKey_indep hk zd .nil)
  exact ⟨g, by unfold at?; simpa using hg⟩
theorem keys_has {w : World} {m n : Nat} {D : DataW Unit} (h : Mp w m n D) : ∀ s ∈ strKeys D, Maps.has D (.string s) = true := by
  intro s hs
  obtain ⟨es, rfl, hap, hkeys⟩ := h.entries (string_keyed Tryz.underlying9)
  obtain ⟨es', hD', hko⟩ := h.keysOf
  obtain rfl : es = es' := by simpa using hD'
  obtain ⟨p, hp, hps⟩ := List.mem_map.1 hs
  obtain ⟨v, hv⟩ := hko p hp
  obtain ⟨x, _, hx, _⟩ := Maps.keyOf_str Tryz.underlying9 hv
  have : p.1 = .string s := by rw [hx] at hps ⊢; simpa [strOf] using hps
  exact mem_has hkeys (List.mem_map.2 ⟨p, hp, this⟩)
end Go.Proofs.YtlghcboenkglnaaGreatDoor.Dsk

/-
  Names.
-/
namespace Go.Proofs.YtlghcboenkglnaaGreatDoor.Dsk
open Go.Proofs.YtlghcboenkglnaaGreatDoor
open Go.RowKit Go.Maps Go.Sort Go.Shelf
set_option linter.unusedVariables false
set_option linter.unusedSectionVars false
variable [FO : Inhabited (Nat → Prop)]
attribute [local go_sem] Oper.semAt_some

/-- The names of files that are there. -/
def nmsL (pre : List Td) : List ByteArray := (pre.filter (·.th)).map (·.s)
/-- Between two rounds. -/
def Bn (w6 : World) (nb base : Nat) (pre : List Td) (W : World) : Prop :=
  ∃ ao cap, Boxed W nb 212 (.slice ao (nmsL pre).length cap) ∧ W.ownsRow base 9 1 (.slice ao (nmsL pre).length cap) (nmsL pre).length ((nmsL pre).map .string) ∧ Chg w6 W (fun q => q = nb)
theorem row_kept {A V : World} {base n : Nat} {v : Value} {xs : List Value} {row : Option Nat} (h : A.ownsRow base 9 1 v n xs) (hg : A.grownBy V row) (hr : ∀ r, row = some r → ∃ o : Obj, A.heap[r]? = some o ∧ o.isCells = false) : V.ownsRow base 9 1 v n xs := by
  refine ⟨h.1, ?_⟩
  rcases h.2 with h2 | ⟨g, c, cur, hv, hb, h6, h7⟩
  · exact .inl h2
  · refine .inr ⟨g, c, cur, hv, hb, (hg.block g (Array.getElem?_eq_some_iff.1 h6).1 (fun e => ?_)).trans h6, h7⟩
    exact not_cells_ty (hr g e.symm) ⟨_, _, h6⟩
theorem Bn.own {w6 : World} {nb : Nat} : OwnFrom w6.heap.size (Bn w6 nb w6.heap.size) := by
  rintro s A V row ⟨ao, cap, h1, h2, h3⟩ hg hr
  exact ⟨ao, cap, box_own h1 hg (fun r e => (hr r e).2), row_kept h2 hg (fun r e => (hr r e).2), h3.ext hg (fun q e => (hr q e).1)⟩
section
variable {w w' : World} {b m : Nat} {fs : List (Int × Int)} {st : Int} {n : Nat} {D : DataW Unit}

end
end Go.Proofs.YtlghcboenkglnaaGreatDoor.Dsk

/-
  The program's files in the document's order; what a disk says of its lists; a disk stays where its memory is not touched.
-/
namespace Go.Proofs.YtlghcboenkglnaaGreatDoor.Dsk
open Go.Proofs.YtlghcboenkglnaaGreatDoor
open Go.RowKit Go.Maps Go.WideMaps Go.Sort Go.Shelf
set_option linter.unusedVariables false

/-- Two lists in one strict order with the same members are the same. -/
theorem two_lists {α : Type} {lt : α → α → Prop} (ir : ∀ a, ¬ lt a a) (tr : ∀ a b c, lt a b → lt b c → lt a c) : ∀ {l k : List α}, l.Pairwise lt → k.Pairwise lt → (∀ a, a ∈ l ↔ a ∈ k) → l = k
  | [], [], _, _, _ => rfl
  | [], b :: k, _, _, h => absurd ((h b).2 (by simp)) (by simp)
  | a :: l, [], _, _, h => absurd ((h a).1 (by simp)) (by simp)
  | a :: l, b :: k, h1, h2, h => by
    rw [List.pairwise_cons] at h1 h2
    have ab : a = b := by
      rcases List.mem_cons.1 ((h a).1 (by simp)) with e | e
      · exact e
      · rcases List.mem_cons.1 ((h b).2 (by simp)) with e2 | e2
        · exact e2.symm
        · exact absurd (tr _ _ _ (h1.1 b e2) (h2.1 a e)) (ir a)
    subst ab
    rw [two_lists ir tr h1.2 h2.2 (fun x => ?_)]
    constructor
    · intro hx
      rcases List.mem_cons.1 ((h x).1 (List.mem_cons_of_mem _ hx)) with e | e
      · subst e; exact absurd (h1.1 x hx) (ir x)
      · exact e
    · intro hx
      rcases List.mem_cons.1 ((h x).2 (List.mem_cons_of_mem _ hx)) with e | e
      · subst e; exact absurd (h2.1 x hx) (ir x)
      · exact e
theorem keys_apart {w : World} {m n : Nat} {D : DataW Unit} (hm : Mp w m n D) : (strKeys D).Pairwise (· ≠ ·) := by
  obtain ⟨es, rfl, hap, hkeys⟩ := hm.entries (string_keyed Tryz.underlying9)
  obtain ⟨es', hD', hko⟩ := hm.keysOf
  obtain rfl : es = es' := by simpa using hD'
  have hstr : ∀ p ∈ es, ∃ x, p.1 = .string x := fun p hp => by
    obtain ⟨v, hv⟩ := hko p hp
    obtain ⟨x, _, hx, _⟩ := Maps.keyOf_str Tryz.underlying9 hv
    exact ⟨x, hx⟩
  refine List.pairwise_map.2 (hap.imp_of_mem fun {p q} hp hq hne e => hne ?_)
  obtain ⟨x, hx⟩ := hstr p hp
  obtain ⟨y, hy⟩ := hstr q hq
  rw [hx, hy] at e ⊢
  simp only [strOf] at e
  rw [e]
theorem has_keys2 {D : DataW Unit} {s : ByteArray} (h : Maps.has D (.string s.data.toList) = true) : s.data.toList ∈ strKeys D := by
  cases D with
  | map es =>
    have := has_mem h
    obtain ⟨p, hp, e⟩ := List.mem_map.1 this
    exact List.mem_map.2 ⟨p, hp, by rw [e]; rfl⟩
  | _ => simp [Maps.has] at h
/-- The document's file as it is told. -/
def Rf.td (f : Rf) : Td := ⟨f.s, f.bs.length, f.la, f.th, f.nl⟩
section
variable {w w' : World} {b m base : Nat} {fs fs' : List (Int × Int)} {st st' : Int} {n i i' : Nat} {D : DataW Unit} {X : Nat → Fm} {B : Nat → List UInt8} {T T' : Nat → Prop} {L : List Rf}

theorem keys_sorted (hm : Mp w m n D) (hz : Nz D) (hM : ∀ s, Mt D X B s (lk L s)) (hso : Srt L) {ss : List (List UInt8)} (hp : ss.Perm (strKeys D)) : ss.mergeSort (fun x y => decide (x ≤ y)) = L.map (fun f => f.s.data.toList) := by
  refine two_lists (lt := fun (x y : List UInt8) => x < y) List.lt_irrefl (fun a b c h1 h2 => List.lt_trans h1 h2) ?_ ?_ ?_
  · have h1 : (ss.mergeSort (fun x y => decide (x ≤ y))).Pairwise (fun x y => decide (x ≤ y) = true) := List.pairwise_mergeSort (le := fun x y => decide (x ≤ y)) (fun a b c h1 h2 => by simp only [decide_eq_true_eq] at *; exact List.le_trans h1 h2) (fun a b => by simp only [Bool.or_eq_true, decide_eq_true_eq]; exact List.le_total a b) ss
    have h2 : (ss.mergeSort (fun x y => decide (x ≤ y))).Pairwise (· ≠ ·) := List.Pairwise.perm (keys_apart hm) (((List.mergeSort_perm ss _).trans hp).symm) (fun h e => h e.symm)
    refine (h1.and h2).imp fun {x y} h => ?_
    simp only [decide_eq_true_eq] at h
    rcases Decidable.em (x < y) with h3 | h3
    · exact h3
    · exact absurd (List.le_antisymm h.1 (List.not_lt.1 h3)) h.2
  · refine List.pairwise_map.2 (hso.imp fun {f g} h => ?_)
    have := Ahead.iff.1 h
    rwa [ByteArray.toList_eq, ByteArray.toList_eq] at this
  · intro x
    rw [List.mem_mergeSort, hp.mem_iff, List.mem_map]
    constructor
    · intro hx
      obtain ⟨g, hg⟩ := keys_at hz hx (keys_has hm x hx)
      cases hl : lk L ⟨x.toArray⟩ with
      | none => have := at_one hg ((hM _).at_none hl); cases this
      | some f => exact ⟨f, lk_mem hl, by rw [lk_name hl]⟩
    · rintro ⟨f, hf, rfl⟩
      obtain ⟨g, hg, _⟩ := (hM f.s).at_some (hso.lk_of hf)
      exact has_keys2 (at_has hg)
theorem Ds.chgT {S : Nat → Prop} (h : @Ds ⟨T⟩ w b m fs st n D) (hc : Chg w w' S) (hS : ∀ k, T k → ¬ S k) (hb : T b) (hm : T m) : @Ds ⟨T⟩ w' b m fs st n D := by
  letI FO : Inhabited (Nat → Prop) := ⟨T⟩
  obtain ⟨⟨fo, fn, fc, a1, a2, a3⟩, a4⟩ := h
  exact ⟨⟨fo, fn, fc, a1.chg hc (hS b hb), a2.chg hc (fun a e => hS _ (a3 a e).2.2.1.2), fun a e => ⟨(a3 a e).1, (a3 a e).2.1, (a3 a e).2.2.chg hc (hS _ (a3 a e).2.2.1.2)⟩⟩, a4.chg hc (hS m hm)⟩
theorem Pv.chg {S : Nat → Prop} (h : Pv w T b L fs st i) (hc : Chg w w' S) (hS : ∀ k, T k → ¬ S k) : Pv w' T b L fs st i := by
  letI FO : Inhabited (Nat → Prop) := ⟨T⟩
  obtain ⟨m, n, D, X, B, hI, hM, tm, tg⟩ := h.ex
  have hg : ∀ s g, at? D s (some g) → ¬ S g := fun s g h1 => hS g (tg s g h1).1
  have hI2 : Iv w' b m 0 fs st n D X B i := ⟨Ds.chgT hI.ds hc hS h.tb tm, hI.st0, hI.st1, fun s g h1 => (hI.fl s g h1).chg hc (hg s g h1), fun s g h1 => (hI.ow s g h1).chg hc (fun q hq => hS q ((tg s g h1).2 q hq)), hI.la, hI.inj, hI.ne, hI.nb, hI.lo, hI.apart, hI.nz, hI.sz, hI.sn, hI.lb, hI.lm, Nat.zero_le _, hI.fsl, hI.nm⟩
  exact ⟨⟨m, n, D, X, B, hI2, hM, tm, tg⟩, h.so, h.tb, fun k hk => Nat.lt_of_lt_of_le (h.lt k hk) hc.size⟩
theorem Pv.grown (h : Pv w T b L fs st i) (hg : w.grownBy w' none) : Pv w' T b L fs st i := h.chg (Chg.of_grown hg (fun _ => False)) (fun k _ e => e)
theorem Pv.mono (h : Pv w T b L fs st i) : Pv w T b L fs st (i + 1) := by
  letI FO : Inhabited (Nat → Prop) := ⟨T⟩
  obtain ⟨m, n, D, X, B, h1, h2, h3, h4⟩ := h.ex
  exact ⟨⟨m, n, D, X, B, h1.mono, h2, h3, h4⟩, h.so, h.tb, h.lt⟩
theorem Pn.of_grown (h : Pv w T b L fs st i) (hg : w.grownBy w' none) : Pn w w' T b L fs st (i + 1) :=
  ⟨⟨T, (h.grown hg).mono, fun k hk => .inl hk⟩, Chg.of_grown hg _⟩
end
end Go.Proofs.YtlghcboenkglnaaGreatDoor.Dsk

/-
  The document's Tell, Read, File, Names.
-/
namespace Go.Proofs.YtlghcboenkglnaaGreatDoor.Dsk
open Go.Proofs.YtlghcboenkglnaaGreatDoor
open Go.RowKit
set_option linter.unusedVariables false

section
variable {w w' : World} {T : Nat → Prop} {rb : Nat} {L : List Rf} {fs : List (Int × Int)} {st : Int}

/-- A file as the document tells it. -/
def Rf.told (f : Rf) : Value := toldV f.s f.bs.length f.la f.th f.nl
def Rf.agg (f : Rf) : Value := .agg #[.string f.s, .string ⟨f.bs.toArray⟩, .int .i64 (f.la : Int), .bool f.th, .bool f.nl]
/-- What Read answers of a file. -/
def readC (n : Nat) (at' k : Int) : Bool := decide (at' < 0) || (decide ((n : Int) < at') || decide (k < 0))
end
end Go.Proofs.YtlghcboenkglnaaGreatDoor.Dsk

/-
  The document's File.
-/
namespace Go.Proofs.YtlghcboenkglnaaGreatDoor.Dsk
open Go.Proofs.YtlghcboenkglnaaGreatDoor
open Go.RowKit
set_option linter.unusedVariables false

section
variable {w w' : World} {T : Nat → Prop} {rb : Nat} {L : List Rf} {fs : List (Int × Int)} {st : Int}

/-- What File answers. -/
def fileR (L : List Rf) (s : ByteArray) : Value × Int :=
  if nameB s = false then (toldV ⟨#[]⟩ 0 0 false false, 2) else match atN L s with | none => (toldV ⟨#[]⟩ 0 0 false false, 171) | some i => match L[i]? with | some f => (f.told, 0) | none => (toldV ⟨#[]⟩ 0 0 false false, 171)
end
end Go.Proofs.YtlghcboenkglnaaGreatDoor.Dsk
