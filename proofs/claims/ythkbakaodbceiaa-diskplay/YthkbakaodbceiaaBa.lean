import Derived.Test.YthkbakaodbceiaaP9
import Derived.Sort.Walk0
import Derived.Test.YthkbakaodbceiaaAe
import Derived.Test.YthkbakaodbceiaaAg
/-
  The document's files by name.
-/
namespace Go.Proofs.Ythkbakaodbceiaa
open Go.RowKit
set_option linter.unusedVariables false

/-- One name is ahead of another. -/
def Ahead (a b : ByteArray) : Prop := Op.bytesLess a.toList b.toList = true
theorem Ahead.iff {a b : ByteArray} : Ahead a b ↔ a.toList < b.toList := by unfold Ahead; rw [bytesLess_eq]; simp
theorem Ahead.irrefl (a : ByteArray) : ¬ Ahead a a := by rw [Ahead.iff]; exact List.lt_irrefl _
theorem Ahead.trans {a b c : ByteArray} (h : Ahead a b) (k : Ahead b c) : Ahead a c := by rw [Ahead.iff] at *; exact List.lt_trans h k
theorem Ahead.ne {a b : ByteArray} (h : Ahead a b) : a ≠ b := fun e => by subst e; exact Ahead.irrefl _ h
theorem Ahead.tri {a b : ByteArray} (h : ¬ Ahead a b) (hne : a ≠ b) : Ahead b a := by
  rw [Ahead.iff] at *
  rcases Decidable.em (b.toList < a.toList) with h2 | h2
  · exact h2
  · exact absurd (List.le_antisymm (List.not_lt.1 h2) (List.not_lt.1 h)) (fun e => hne (by have := str_beq a b; rw [e] at this; simpa using this))

/-- The files in the order of their names, no name twice. -/
def Srt (L : List Rf) : Prop := L.Pairwise (fun f g => Ahead f.s g.s)
/-- The file of a name. -/
def lk (L : List Rf) (s : ByteArray) : Option Rf := L.find? (fun f => decide (f.s = s))

theorem lk_none {L : List Rf} {s : ByteArray} : lk L s = none ↔ ∀ f ∈ L, f.s ≠ s := by simp [lk, List.find?_eq_none]
theorem lk_name {L : List Rf} {s : ByteArray} {f : Rf} (h : lk L s = some f) : f.s = s := by simpa using List.find?_some h
theorem lk_mem {L : List Rf} {s : ByteArray} {f : Rf} (h : lk L s = some f) : f ∈ L := List.mem_of_find?_eq_some h
theorem Srt.lk_of {L : List Rf} (h : Srt L) {f : Rf} (hf : f ∈ L) : lk L f.s = some f := by
  induction L with
  | nil => cases hf
  | cons a L ih =>
    unfold Srt at h
    rw [List.pairwise_cons] at h
    unfold lk
    rw [List.find?_cons]
    by_cases e : a.s = f.s
    · simp only [e, decide_true]
      rcases List.mem_cons.1 hf with rfl | h2
      · rfl
      · exact absurd e (h.1 f h2).ne
    · simp only [e, decide_false]
      rcases List.mem_cons.1 hf with rfl | h2
      · exact absurd rfl e
      · exact ih h.2 h2
/-- Two lists of one order with the same files: what they say of each name is all. -/
theorem lk_iff {L : List Rf} (h : Srt L) {s : ByteArray} {f : Rf} : lk L s = some f ↔ f ∈ L ∧ f.s = s :=
  ⟨fun e => ⟨lk_mem e, lk_name e⟩, fun ⟨h1, h2⟩ => by subst h2; exact h.lk_of h1⟩
theorem lk_atN {L : List Rf} {s : ByteArray} {i : Nat} (h : atN L s = some i) : lk L s = L[i]? := by
  unfold atN at h
  unfold lk
  obtain ⟨hi, h1, h2⟩ := List.findIdx?_eq_some_iff_getElem.1 h
  rw [List.getElem?_eq_getElem hi]
  rw [List.find?_eq_some_iff_getElem]
  exact ⟨h1, i, hi, rfl, fun j hj => by simpa using h2 j hj⟩
theorem lk_atN_none {L : List Rf} {s : ByteArray} : atN L s = none ↔ lk L s = none := by
  unfold atN lk
  rw [List.findIdx?_eq_none_iff, List.find?_eq_none]
  simp

/-- A file is changed, its name stays. -/
theorem Srt.set {L : List Rf} (h : Srt L) {i : Nat} {f f' : Rf} (hf : L[i]? = some f) (hs : f'.s = f.s) : Srt (L.set i f') := by
  unfold Srt at *
  have e : (L.set i f').map (·.s) = L.map (·.s) := by
    rw [List.map_set, hs]
    apply List.ext_getElem?
    intro j
    rw [List.getElem?_set]
    split
    · rename_i e
      subst e
      split
      · simp [hf]
      · rename_i h9; have := (List.getElem?_eq_some_iff.1 hf).1; simp at h9; omega
    · rfl
  have h2 : (L.map (·.s)).Pairwise Ahead := List.pairwise_map.2 h
  rw [← e] at h2
  exact List.pairwise_map.1 h2
theorem lk_set {L : List Rf} (h : Srt L) {i : Nat} {f f' : Rf} (hf : L[i]? = some f) (hs : f'.s = f.s) (s : ByteArray) : lk (L.set i f') s = if s = f.s then some f' else lk L s := by
  have hi := (List.getElem?_eq_some_iff.1 hf).1
  have hS := h.set hf hs
  split
  · rename_i e
    subst e
    rw [← hs]
    exact hS.lk_of (List.mem_of_getElem? (i := i) (by rw [List.getElem?_set]; simp [hi]))
  · rename_i e
    apply Option.ext
    intro g
    rw [lk_iff hS, lk_iff h]
    constructor
    · rintro ⟨h1, rfl⟩
      refine ⟨?_, rfl⟩
      obtain ⟨j, hj⟩ := List.mem_iff_getElem?.1 h1
      rw [List.getElem?_set] at hj
      split at hj
      · first
          | (split at hj
             · cases hj; exact absurd hs e
             · cases hj)
          | (cases hj; exact absurd hs e)
      · exact List.mem_of_getElem? hj
    · rintro ⟨h1, rfl⟩
      refine ⟨?_, rfl⟩
      obtain ⟨j, hj⟩ := List.mem_iff_getElem?.1 h1
      refine List.mem_iff_getElem?.2 ⟨j, ?_⟩
      rw [List.getElem?_set]
      split
      · rename_i e2
        subst e2
        rw [hf] at hj
        cases hj
        exact absurd rfl e
      · exact hj
/-- A file is taken out. -/
theorem Srt.sub {L L' : List Rf} (h : Srt L) (hs : L'.Sublist L) : Srt L' := List.Pairwise.sublist hs h
theorem cut_sub (L : List Rf) (i : Nat) : (L.take i ++ L.drop (i + 1)).Sublist L := by
  rw [← List.eraseIdx_eq_take_drop_succ]
  exact List.eraseIdx_sublist L i
theorem lk_cut {L : List Rf} (h : Srt L) {i : Nat} {f : Rf} (hf : L[i]? = some f) (s : ByteArray) : lk (L.take i ++ L.drop (i + 1)) s = if s = f.s then none else lk L s := by
  have hS := h.sub (cut_sub L i)
  have hi := (List.getElem?_eq_some_iff.1 hf).1
  have hd : L.drop i = f :: L.drop (i + 1) := by rw [List.drop_eq_getElem_cons hi]; congr 1; exact (List.getElem?_eq_some_iff.1 hf).2
  have hL : L = L.take i ++ f :: L.drop (i + 1) := by rw [← hd, List.take_append_drop]
  have hP := h
  unfold Srt at hP
  rw [hL, List.pairwise_append, List.pairwise_cons] at hP
  obtain ⟨_, ⟨p1, _⟩, p2⟩ := hP
  have hno : ∀ g ∈ L.take i ++ L.drop (i + 1), g.s ≠ f.s := fun g hg => by
    rcases List.mem_append.1 hg with h1 | h1
    · exact (p2 g h1 f (by simp)).ne
    · exact (p1 g h1).ne.symm
  split
  · rename_i e
    subst e
    exact lk_none.2 hno
  · rename_i e
    apply Option.ext
    intro g
    rw [lk_iff hS, lk_iff h]
    constructor
    · rintro ⟨h1, rfl⟩
      exact ⟨(cut_sub L i).subset h1, rfl⟩
    · rintro ⟨h1, rfl⟩
      refine ⟨?_, rfl⟩
      rw [hL] at h1
      simp at h1
      rcases h1 with h1 | rfl | h1
      · simp [h1]
      · exact absurd rfl e
      · simp [h1]
theorem posL_take (L : List Rf) (s : ByteArray) : ∀ f ∈ L.take (posL L s), Ahead f.s s := by
  induction L with
  | nil => simp
  | cons a L ih =>
    unfold posL
    rw [List.takeWhile_cons]
    split
    · rename_i h1
      intro f hf
      simp at hf
      rcases hf with rfl | hf
      · exact h1
      · exact ih f hf
    · simp
theorem posL_drop {L : List Rf} (h : Srt L) (s : ByteArray) (hn : lk L s = none) : ∀ f ∈ L.drop (posL L s), Ahead s f.s := by
  induction L with
  | nil => simp
  | cons a L ih =>
    have hn' := lk_none.1 hn
    unfold Srt at h
    rw [List.pairwise_cons] at h
    unfold posL
    rw [List.takeWhile_cons]
    split
    · rename_i h1
      intro f hf
      simp at hf
      exact ih h.2 (lk_none.2 (fun f hf => hn' f (by simp [hf]))) f hf
    · rename_i h1
      intro f hf
      have ha : Ahead s a.s := Ahead.tri h1 (hn' a (by simp))
      simp at hf
      rcases hf with rfl | hf
      · exact ha
      · exact ha.trans (h.1 f hf)
theorem Srt.ins {L : List Rf} (h : Srt L) {s : ByteArray} (hn : lk L s = none) : Srt (insL L s) := by
  have h1 := posL_take L s
  have h2 := posL_drop h s hn
  unfold Srt insL
  rw [List.append_assoc, List.pairwise_append]
  refine ⟨h.sub (List.take_sublist _ _), ?_, fun a ha b hb => ?_⟩
  · simp only [List.singleton_append, List.pairwise_cons]
    exact ⟨h2, h.sub (List.drop_sublist _ _)⟩
  · simp at hb
    rcases hb with rfl | hb
    · exact h1 a ha
    · exact (h1 a ha).trans (h2 b hb)
theorem lk_ins {L : List Rf} (h : Srt L) {s : ByteArray} (hn : lk L s = none) (x : ByteArray) : lk (insL L s) x = if x = s then some ⟨s, [], 0, true, false⟩ else lk L x := by
  have hS := h.ins hn
  split
  · rename_i e
    subst e
    exact hS.lk_of (f := ⟨x, [], 0, true, false⟩) (by simp [insL])
  · rename_i e
    apply Option.ext
    intro g
    rw [lk_iff hS, lk_iff h]
    have hm : g ∈ L ↔ g ∈ L.take (posL L s) ∨ g ∈ L.drop (posL L s) := by rw [← List.mem_append, List.take_append_drop]
    rw [hm]
    simp only [insL, List.mem_append, List.mem_singleton]
    constructor
    · rintro ⟨(h1 | rfl) | h1, rfl⟩
      · exact ⟨.inl h1, rfl⟩
      · exact absurd rfl e
      · exact ⟨.inr h1, rfl⟩
    · rintro ⟨h1 | h1, rfl⟩
      · exact ⟨.inl (.inl h1), rfl⟩
      · exact ⟨.inr h1, rfl⟩
/-- SyncDir. -/
theorem Srt.sd {L : List Rf} (h : Srt L) : Srt (sdL L) := by
  unfold Srt sdL
  exact List.pairwise_map.2 (h.sub List.filter_sublist)
theorem lk_sd {L : List Rf} (h : Srt L) (s : ByteArray) : lk (sdL L) s = match lk L s with | none => none | some f => if f.th = true then some { f with nl := true } else none := by
  apply Option.ext
  intro g
  rw [lk_iff h.sd]
  have hm : g ∈ sdL L ↔ ∃ f, (f ∈ L ∧ f.th = true) ∧ { f with nl := true } = g := by simp [sdL]
  rw [hm]
  constructor
  · rintro ⟨⟨f, ⟨h1, h2⟩, rfl⟩, rfl⟩
    have := h.lk_of h1
    simp only at this ⊢
    rw [this]
    simp [h2]
  · intro e
    cases hl : lk L s with
    | none => rw [hl] at e; cases e
    | some f =>
      rw [hl] at e
      simp only at e
      split at e
      · rename_i h2
        cases e
        exact ⟨⟨f, ⟨lk_mem hl, h2⟩, rfl⟩, show f.s = s from lk_name hl⟩
      · cases e
end Go.Proofs.Ythkbakaodbceiaa

/-
  The program's disk, with the document's files beside it.
-/
namespace Go.Proofs.Ythkbakaodbceiaa
open Go.RowKit Go.Maps Go.WideMaps
set_option linter.unusedVariables false

/-- What stands at a name is the document's file. -/
def Mt (D : DataW Unit) (X : Nat → Fm) (B : Nat → List UInt8) (s : ByteArray) : Option Rf → Prop
  | none => at? D s none
  | some f => ∃ g, at? D s (some g) ∧ (X g).bn = f.bs.length ∧ (X g).la = (f.la : Int) ∧ (X g).th = f.th ∧ (X g).nl = f.nl ∧ B g = f.bs

section
variable {w w' : World} {b m base : Nat} {fs : List (Int × Int)} {st : Int} {n i : Nat} {D : DataW Unit} {X : Nat → Fm} {B : Nat → List UInt8} {T T' : Nat → Prop} {L : List Rf}

theorem Ds.owner (h : @Ds ⟨T⟩ w b m fs st n D) (hT : ∀ k, T k → k < w.heap.size → T' k) : @Ds ⟨T'⟩ w b m fs st n D := by
  obtain ⟨⟨fo, fn, fc, a1, a2, a3⟩, a4⟩ := h
  refine @Ds.mk ⟨T'⟩ _ _ _ _ _ _ _ ⟨fo, fn, fc, a1, a2, fun a e => ?_⟩ a4
  obtain ⟨h1, h2, ⟨h3, h4⟩, h5⟩ := a3 a e
  exact ⟨h1, h2, ⟨h3, hT _ h4 h5.ty.lt⟩, h5⟩
theorem Iv.owner (h : @Iv ⟨T⟩ w b m base fs st n D X B i) (hT : ∀ k, T k → k < w.heap.size → T' k) : @Iv ⟨T'⟩ w b m base fs st n D X B i := by
  obtain ⟨d, a1, a2, a3, a4, a5, a6, a7, a8, a9, b1, b2, b3, b4, b5, b6, b7, b8, b9⟩ := h
  exact @Iv.mk ⟨T'⟩ _ _ _ _ _ _ _ _ _ _ _ (Ds.owner d hT) a1 a2 a3 a4 a5 a6 a7 a8 a9 b1 b2 b3 b4 b5 b6 b7 b8 b9

/-- The program's disk at b, whose memory is T, with the document's files, fates, steps; i calls were made. -/
structure Pv (w : World) (T : Nat → Prop) (b : Nat) (L : List Rf) (fs : List (Int × Int)) (st : Int) (i : Nat) : Prop where
  ex : ∃ m n D X B, @Iv ⟨T⟩ w b m 0 fs st n D X B i ∧ (∀ s, Mt D X B s (lk L s)) ∧ T m ∧ ∀ s g, at? D s (some g) → T g ∧ ∀ q, blk (X g).bo = some q → T q
  so : Srt L
  tb : T b
  lt : ∀ k, T k → k < w.heap.size

/-- What a call on the program's disk leaves. -/
def Pn (w w' : World) (T : Nat → Prop) (b : Nat) (L : List Rf) (fs : List (Int × Int)) (st : Int) (i : Nat) : Prop :=
  (∃ T', Pv w' T' b L fs st i ∧ ∀ k, T' k → T k ∨ w.heap.size ≤ k) ∧ Chg w w' T

theorem Pn.mk (hI : @Iv ⟨fun k => T k ∨ w.heap.size ≤ k⟩ w' b m 0 fs st n D X B i) (hM : ∀ s, Mt D X B s (lk L s)) (hso : Srt L) (hm : T m ∨ w.heap.size ≤ m) (hg : ∀ s g, at? D s (some g) → (T g ∨ w.heap.size ≤ g) ∧ ∀ q, blk (X g).bo = some q → T q ∨ w.heap.size ≤ q) (hc : Chg w w' T) (hlt : ∀ k, T k → k < w.heap.size) (tb : T b) : Pn w w' T b L fs st i := by
  letI FO : Inhabited (Nat → Prop) := ⟨fun k => T k ∨ w.heap.size ≤ k⟩
  refine ⟨⟨fun k => (T k ∨ w.heap.size ≤ k) ∧ k < w'.heap.size, ⟨⟨m, n, D, X, B, Iv.owner hI (fun k h1 h2 => ⟨h1, h2⟩), hM, ⟨hm, hI.ds.mp.lt⟩, fun s g h1 => ⟨⟨(hg s g h1).1, (hI.fl s g h1).lt⟩, fun q hq => ⟨(hg s g h1).2 q hq, ((hI.ow s g h1).ty q hq).lt⟩⟩⟩, hso, ⟨.inl tb, Nat.lt_of_lt_of_le (hlt b tb) hc.size⟩, fun k hk => hk.2⟩, fun k hk => hk.1⟩, hc⟩

theorem Pn.refl (h : Pv w T b L fs st i) : Pn w w T b L fs st (i + 1) := by
  letI FO : Inhabited (Nat → Prop) := ⟨T⟩
  obtain ⟨m, n, D, X, B, h1, h2, h3, h4⟩ := h.ex
  exact ⟨⟨T, ⟨⟨m, n, D, X, B, h1.mono, h2, h3, h4⟩, h.so, h.tb, h.lt⟩, fun k hk => .inl hk⟩, Chg.refl _ _⟩

theorem Mt.at_none {s : ByteArray} (h : Mt D X B s (lk L s)) (hn : lk L s = none) : at? D s none := by rw [hn] at h; exact h
theorem Mt.at_some {s : ByteArray} {f : Rf} (h : Mt D X B s (lk L s)) (hn : lk L s = some f) : ∃ g, at? D s (some g) ∧ (X g).bn = f.bs.length ∧ (X g).la = (f.la : Int) ∧ (X g).th = f.th ∧ (X g).nl = f.nl ∧ B g = f.bs := by rw [hn] at h; exact h

/-- Create. -/
theorem create_p (h : Pv w T b L fs st i) (hi : i < 300) (s : ByteArray) :
    Calls Try.prog 15 #[.pointer (some ⟨b, 0, none⟩), .string s] w fun e w' => e = .returned (.int .i64 (creL L fs s).1) ∧ Pn w w' T b (creL L fs s).2.2 (if (creL L fs s).2.1 then fs.tail else fs) (if (creL L fs s).2.1 then st + 1 else st) (i + 1) := by
  letI FO : Inhabited (Nat → Prop) := ⟨T⟩
  obtain ⟨m, n, D, X, B, hI, hM, tm, tg⟩ := h.ex
  have h0 := hI.st0
  have h1 : st < 4611686018427387904 := by have := hI.st1; omega
  cases hs : nameB s with
  | false =>
    have hE : creL L fs s = (2, false, L) := by unfold creL; rw [if_pos hs]
    rw [hE]
    refine (create_bad s hI.ds hs).mono ?_
    rintro e w2 ⟨rfl, rfl⟩
    exact ⟨rfl, Pn.refl h⟩
  | true =>
    cases ha : atN L s with
    | some j =>
      have hE : creL L fs s = (170, false, L) := by unfold creL; rw [if_neg (by simp [hs]), ha]
      obtain ⟨f, hf, hfs⟩ := atN_some ha
      obtain ⟨g, hg, _⟩ := (hM s).at_some (by rw [lk_atN ha]; exact hf)
      rw [hE]
      refine (create_there s g hI.ds hs hg).mono ?_
      rintro e w2 ⟨rfl, rfl⟩
      exact ⟨rfl, Pn.refl h⟩
    | none =>
      have hln := lk_atN_none.1 ha
      have hg := (hM s).at_none hln
      have hsz : Maps.size D < 4096 := by have := hI.sz; omega
      have hE : creL L fs s = ((stepC fs).1, true, if (stepC fs).1 = 0 then insL L s else L) := by unfold creL; rw [if_neg (by simp [hs]), ha]
      rw [hE]
      rw [stepC_code fs 0]
      simp only [if_true]
      by_cases hc : (stepR fs 0).2 = 0
      · rw [if_pos hc, hc]
        refine (create_ok s hI.ds h0 h1 hs hg hsz (by have := hI.sn; unfold maxLen; omega) hc).mono ?_
        rintro e w2 ⟨rfl, g, hgl, hfl, hD, hC⟩
        have hk : WideAt.IsKeyLit (.string s.data.toList) := (string_keyed Try.underlying9).key (keyOf_string_mk (P := Try.prog) Try.underlying9 (name_le hs))
        have hI2 := hI.made hs hgl hk hg hD hfl hC
        have hlt : ∀ t g2, at? D t (some g2) → g2 ≠ g := fun t g2 h2 => by have := (hI.fl t g2 h2).lt; omega
        have hat : ∀ t o, at? D t o → at? (D.put (.string s.data.toList) (.lit (.int .i64 g))) t (if t = s then some g else o) := fun t o ho => at_put hI.ds.mp s t g o ho
        refine ⟨rfl, Pn.mk (Iv.owner (T := T) hI2 (fun k hk _ => .inl hk)) (fun t => ?_) (h.so.ins hln) (.inl tm) (fun t g2 h2 => ?_) (hC.mono (fun q _ e => e.elim (fun e => by rw [e]; exact h.tb) (fun e => by rw [e]; exact tm))) h.lt h.tb⟩
        · rw [lk_ins h.so hln]
          by_cases et : t = s
          · rw [if_pos et]
            have := hat t none (et ▸ hg)
            rw [if_pos et] at this
            exact ⟨g, this, by simp, by simp, by simp, by simp, by simp⟩
          · rw [if_neg et]
            cases hl : lk L t with
            | none =>
              have := hat t none ((hM t).at_none hl)
              rwa [if_neg et] at this
            | some f =>
              obtain ⟨g2, h2, r1, r2, r3, r4, r5⟩ := (hM t).at_some hl
              have := hat t _ h2
              rw [if_neg et] at this
              have hne := hlt t g2 h2
              exact ⟨g2, this, by simpa [hne] using r1, by simpa [hne] using r2, by simpa [hne] using r3, by simpa [hne] using r4, by simpa [hne] using r5⟩
        · by_cases et : t = s
          · have h3 := hat t none (et ▸ hg)
            rw [if_pos et] at h3
            obtain rfl : g = g2 := by have := at_one h3 h2; simpa using this
            exact ⟨.inr hgl, fun q hq => by simp [blk] at hq⟩
          · cases hl : lk L t with
            | none =>
              have h3 := hat t none ((hM t).at_none hl)
              rw [if_neg et] at h3
              have := at_one h3 h2
              cases this
            | some f =>
              obtain ⟨g3, h4, _⟩ := (hM t).at_some hl
              have h3 := hat t _ h4
              rw [if_neg et] at h3
              obtain rfl : g3 = g2 := by have := at_one h3 h2; simpa using this
              have hne := hlt t g3 h4
              exact ⟨.inl (tg t g3 h4).1, fun q hq => .inl ((tg t g3 h4).2 q (by simpa [hne] using hq))⟩
      · rw [if_neg hc]
        refine (create_fail s hI.ds h0 h1 hs hg hsz hc).mono ?_
        rintro e w2 ⟨rfl, hD, hC⟩
        have hI2 := hI.step hD hC
        exact ⟨rfl, Pn.mk (Iv.owner (T := T) hI2 (fun k hk _ => .inl hk)) hM h.so (.inl tm) (fun s g hg => ⟨.inl (tg s g hg).1, fun q hq => .inl ((tg s g hg).2 q hq)⟩) (hC.mono (fun q _ e => by rw [e]; exact h.tb)) h.lt h.tb⟩
end
end Go.Proofs.Ythkbakaodbceiaa

/-
  The program's calls on a file, in the document's words.
-/
namespace Go.Proofs.Ythkbakaodbceiaa
open Go.RowKit Go.Maps Go.WideMaps
set_option linter.unusedVariables false

section
variable {w w' : World} {b m base : Nat} {fs fs' : List (Int × Int)} {st st' : Int} {n i i' : Nat} {D : DataW Unit} {X : Nat → Fm} {B : Nat → List UInt8} {T T' : Nat → Prop} {L : List Rf}

/-- A call changes one file. -/
theorem Pn.filed (h : Pv w T b L fs st i) (hM : ∀ s, Mt D X B s (lk L s)) (tm : T m) (tg : ∀ s g, at? D s (some g) → T g ∧ ∀ q, blk (X g).bo = some q → T q) (hinj : ∀ s s' g, at? D s (some g) → at? D s' (some g) → s = s')
    {s : ByteArray} {j g : Nat} {f f' : Rf} (hh : Hit L s j f) (hg : at? D s (some g)) {x' : Fm} {l' : List UInt8} (hI2 : @Iv ⟨T⟩ w' b m 0 fs' st' n D (fun k => if k = g then x' else X k) (fun k => if k = g then l' else B k) i')
    (hx : x'.bn = f'.bs.length ∧ x'.la = (f'.la : Int) ∧ x'.th = f'.th ∧ x'.nl = f'.nl ∧ l' = f'.bs) (hfs : f'.s = f.s) (hl : Lies w (X g).bo x'.bo) (hC : Chg w w' (fun k => k = b ∨ k = g ∨ blk (X g).bo = some k)) : Pn w w' T b (L.set j f') fs' st' i' := by
  have hn : f.s = s := by obtain ⟨f2, h1, h2⟩ := atN_some hh.at'; rw [hh.get] at h1; cases h1; exact h2
  refine Pn.mk (Iv.owner (T := T) hI2 (fun k hk _ => .inl hk)) (fun t => ?_) (h.so.set hh.get hfs) (.inl tm) (fun t g2 h2 => ?_) (hC.mono (fun q _ e => ?_)) h.lt h.tb
  · rw [lk_set h.so hh.get hfs]
    by_cases et : t = f.s
    · rw [if_pos et]
      refine ⟨g, by rw [et, hn]; exact hg, ?_⟩
      simpa using hx
    · rw [if_neg et]
      cases hk : lk L t with
      | none => exact (hM t).at_none hk
      | some f2 =>
        obtain ⟨g2, h2, r⟩ := (hM t).at_some hk
        have hne : g2 ≠ g := fun e => et (by rw [hn]; exact hinj t s g (e ▸ h2) hg)
        exact ⟨g2, h2, by simpa [hne] using r⟩
  · by_cases e : g2 = g
    · subst e
      refine ⟨.inl (tg t g2 h2).1, fun q hq => ?_⟩
      simp at hq
      rcases hl q hq with h3 | h3
      · exact .inl ((tg t g2 h2).2 q h3)
      · exact .inr h3
    · exact ⟨.inl (tg t g2 h2).1, fun q hq => .inl ((tg t g2 h2).2 q (by simpa [e] using hq))⟩
  · rcases e with e | e | e
    · rw [e]; exact h.tb
    · rw [e]; exact (tg s g hg).1
    · exact (tg s g hg).2 q e

/-- A file that is there, as the program has it. -/
theorem Iv.hit (hI : @Iv ⟨T⟩ w b m 0 fs st n D X B i) (hM : ∀ s, Mt D X B s (lk L s)) {s : ByteArray} {j : Nat} {f : Rf} (hh : Hit L s j f) : ∃ g bo bc, at? D s (some g) ∧ X g = ⟨bo, f.bs.length, bc, (f.la : Int), true, f.nl⟩ ∧ B g = f.bs ∧ Fl w g bo f.bs.length bc (f.la : Int) true f.nl ∧ f.la ≤ f.bs.length ∧ f.bs.length ≤ 3000 * i ∧ Ow w 0 5 bo f.bs.length bc f.bs ∧ blk bo ≠ some b ∧ blk bo ≠ some g ∧ g ≠ b := by
  letI FO : Inhabited (Nat → Prop) := ⟨T⟩
  obtain ⟨g, hg, r1, r2, r3, r4, r5⟩ := (hM s).at_some (by rw [lk_atN hh.at']; exact hh.get)
  have hfl := hI.fl s g hg
  have how := hI.ow s g hg
  obtain ⟨a, q1, q2, q3⟩ := hI.la s g hg
  have hnb := hI.nb s g hg
  have hne := hI.ne s g hg
  obtain ⟨x, hx⟩ : ∃ x, X g = x := ⟨_, rfl⟩
  rw [hx] at r1 r2 r3 r4 hfl how q1 q2 q3 hnb
  rw [r5] at how
  obtain ⟨bo, bn, bc, la, th, nl⟩ := x
  dsimp only at r1 r2 r3 r4 hfl how q1 q2 q3 hnb
  rw [hh.th] at r3
  subst r1 r2 r3 r4
  have hbg : blk bo ≠ some g := fun e => (how.ty g e).ne hfl.ty (by decide) rfl
  exact ⟨g, bo, bc, hg, hx, r5, hfl, by omega, by omega, how, hnb, hbg, hne⟩
end
end Go.Proofs.Ythkbakaodbceiaa

/-
  The program's Append, Sync, Cut, Remove, SyncDir, in the document's words.
-/
namespace Go.Proofs.Ythkbakaodbceiaa
open Go.RowKit Go.Maps Go.WideMaps
set_option linter.unusedVariables false

section
variable {w w' : World} {b m base : Nat} {fs fs' : List (Int × Int)} {st st' : Int} {n i i' : Nat} {D : DataW Unit} {X : Nat → Fm} {B : Nat → List UInt8} {T T' : Nat → Prop} {L : List Rf}

/-- No such file: the document says why. -/
theorem Pv.lost (h : Pv w T b L fs st i) (s : ByteArray) (hc : (findR L s).2 ≠ 0) : Lost w b s (findR L s).2 := by
  letI FO : Inhabited (Nat → Prop) := ⟨T⟩
  obtain ⟨m, n, D, X, B, hI, hM, tm, tg⟩ := h.ex
  unfold findR at hc ⊢
  cases hs : nameB s with
  | false => simpa using lost_bad hI.ds hs
  | true =>
    rw [hs, if_neg (by simp)] at hc
    rw [if_neg (by simp)]
    cases ha : atN L s with
    | none => exact lost_none hI.ds hs ((hM s).at_none (lk_atN_none.1 ha))
    | some j =>
      rw [ha] at hc
      obtain ⟨f, hf, hfs⟩ := atN_some ha
      obtain ⟨g, hg, r1, r2, r3, r4, r5⟩ := (hM s).at_some (by rw [lk_atN ha]; exact hf)
      have hfl := hI.fl s g hg
      simp only [hf, Option.map_some] at hc ⊢
      by_cases ht : f.th = true
      · simp [ht] at hc
      · have ht' : f.th = false := by simpa using ht
        rw [if_neg (by simp [ht'])]
        rcases hX : X g with ⟨bo, bn, bc, la, th, nl⟩
        rw [hX] at hfl r3
        dsimp only at r3
        rw [ht'] at r3
        subst r3
        exact lost_gone hI.ds hs hg hfl

theorem sync_p (h : Pv w T b L fs st i) (hi : i < 300) {s : ByteArray} {j : Nat} {f : Rf} (hh : Hit L s j f) (k : Nat) (hk : (stepR fs ((f.bs.length : Int) - f.la)).1 = (k : Int)) :
    Calls Try.prog 19 #[.pointer (some ⟨b, 0, none⟩), .string s] w fun e w' => e = .returned (.int .i64 (stepR fs ((f.bs.length : Int) - f.la)).2) ∧ Pn w w' T b (L.set j { f with la := f.la + k }) fs.tail (st + 1) (i + 1) := by
  letI FO : Inhabited (Nat → Prop) := ⟨T⟩
  obtain ⟨m, n, D, X, B, hI, hM, tm, tg⟩ := h.ex
  have h0 := hI.st0
  have h1 : st < 4611686018427387904 := by have := hI.st1; omega
  obtain ⟨g, bo, bc, hg, hX, hB, hf, hla, hbn, ho, hbb, hbg, hne⟩ := Iv.hit hI hM hh
  obtain ⟨j2, hj2, hjk⟩ := stepR_le fs (f.bs.length - f.la)
  have hcast : ((f.bs.length - f.la : Nat) : Int) = (f.bs.length : Int) - f.la := by omega
  rw [hcast, hk] at hj2
  obtain rfl : k = j2 := by omega
  refine (sync_at s g hI.ds h0 h1 hh.nm hg hf hne hla (by omega) k hk hjk).mono ?_
  rintro e w2 ⟨rfl, hd, hf', hC⟩
  have hC' : Chg w w2 (fun q => q = b ∨ q = g ∨ blk (X g).bo = some q) := hC.mono (fun q _ e => by rcases e with e | e; exact .inl e; exact .inr (.inl e))
  have hLi : Lies w (X g).bo (⟨bo, f.bs.length, bc, ((f.la + k : Nat) : Int), true, f.nl⟩ : Fm).bo := by rw [hX]; exact fun q hq => .inl hq
  have hI2 := hI.file hg hd ⟨bo, f.bs.length, bc, ((f.la + k : Nat) : Int), true, f.nl⟩ f.bs hf' (ho.beside hC (fun q hq e => by
    rcases e with e | e
    · exact hbb (by rw [hq, e])
    · exact hbg (by rw [hq, e]))) ⟨f.la + k, rfl, by simp only; omega, by simp only; omega⟩ hLi hC'
  exact ⟨rfl, Pn.filed h hM tm tg hI.inj hh hg hI2 ⟨rfl, rfl, hh.th.symm, rfl, rfl⟩ rfl hLi hC'⟩

theorem append_p (h : Pv w T b L fs st i) (hi : i < 300) {s : ByteArray} {j : Nat} {f : Rf} (hh : Hit L s j f) {xo : Option Addr} {k xc : Nat} {x : List UInt8} (hx : Bs w xo k xc x) (hk : k ≤ 3000) (hxT : ∀ a, xo = some a → k = 0 ∨ ¬ T a.block) (y : Nat) (hy : (stepR fs k).1 = (y : Int)) :
    Calls Try.prog 17 #[.pointer (some ⟨b, 0, none⟩), .string s, .slice xo k xc] w fun e w' => e = .returned (.int .i64 (stepR fs k).2) ∧ Pn w w' T b (L.set j { f with bs := f.bs ++ x.take y }) fs.tail (st + 1) (i + 1) := by
  letI FO : Inhabited (Nat → Prop) := ⟨T⟩
  obtain ⟨m, n, D, X, B, hI, hM, tm, tg⟩ := h.ex
  have h0 := hI.st0
  have h1 : st < 4611686018427387904 := by have := hI.st1; omega
  obtain ⟨g, bo, bc, hg, hX, hB, hf, hla, hbn, ho, hbb, hbg, hne⟩ := Iv.hit hI hM hh
  obtain ⟨j2, hj2, hjk⟩ := stepR_le fs k
  rw [hy] at hj2
  obtain rfl : y = j2 := by omega
  have hlen : (x.take y).length = y := by rw [List.length_take, hx.len]; omega
  refine (append_gen s g 0 (Nat.zero_le _) hI.ds h0 h1 hh.nm hg hf hne f.bs ho xo k xc x hx (fun a e => (hxT a e).imp id (fun h9 e2 => h9 (e2 ▸ h.tb))) hbb hbg (by omega) y hy hjk).mono ?_
  rintro e w2 ⟨rfl, bo', bc', hf', ho', hL, hd, hC⟩
  have hC' : Chg w w2 (fun q => q = b ∨ q = g ∨ blk (X g).bo = some q) := by rw [hX]; exact hC
  have hLi : Lies w (X g).bo (⟨bo', f.bs.length + y, bc', (f.la : Int), true, f.nl⟩ : Fm).bo := by rw [hX]; exact hL
  have hI2 := hI.file hg hd ⟨bo', f.bs.length + y, bc', (f.la : Int), true, f.nl⟩ (f.bs ++ x.take y) hf' ho' ⟨f.la, rfl, by simp only; omega, by simp only; omega⟩ hLi hC'
  exact ⟨rfl, Pn.filed h hM tm tg hI.inj hh hg hI2 ⟨by simp [hlen], rfl, hh.th.symm, rfl, rfl⟩ rfl hLi hC'⟩
end
end Go.Proofs.Ythkbakaodbceiaa

/-
  The program's Cut, in the document's words.
-/
namespace Go.Proofs.Ythkbakaodbceiaa
open Go.RowKit Go.Maps Go.WideMaps
set_option linter.unusedVariables false

section
variable {w w' : World} {b m base : Nat} {fs fs' : List (Int × Int)} {st st' : Int} {n i i' : Nat} {D : DataW Unit} {X : Nat → Fm} {B : Nat → List UInt8} {T T' : Nat → Prop} {L : List Rf}

/-- A step that fails. -/
theorem Pn.stepped (h : Pv w T b L fs st i) (hI : @Iv ⟨T⟩ w b m 0 fs st n D X B i) (hM : ∀ s, Mt D X B s (lk L s)) (tm : T m) (tg : ∀ s g, at? D s (some g) → T g ∧ ∀ q, blk (X g).bo = some q → T q) (hd : @Ds ⟨T⟩ w' b m fs.tail (st + 1) n D) (hC : Chg w w' (fun k => k = b)) : Pn w w' T b L fs.tail (st + 1) (i + 1) := by
  letI FO : Inhabited (Nat → Prop) := ⟨T⟩
  have hI2 := hI.step hd hC
  exact Pn.mk (Iv.owner (T := T) hI2 (fun k hk _ => .inl hk)) hM h.so (.inl tm) (fun s g hg => ⟨.inl (tg s g hg).1, fun q hq => .inl ((tg s g hg).2 q hq)⟩) (hC.mono (fun q _ e => by rw [e]; exact h.tb)) h.lt h.tb

theorem cut_p_range (h : Pv w T b L fs st i) {s : ByteArray} {j : Nat} {f : Rf} (hh : Hit L s j f) (z : Int) (hz : z < 0 ∨ (f.bs.length : Int) < z) :
    Calls Try.prog 23 #[.pointer (some ⟨b, 0, none⟩), .string s, .int .i64 z] w fun e w' => e = .returned (.int .i64 4) ∧ w' = w := by
  letI FO : Inhabited (Nat → Prop) := ⟨T⟩
  obtain ⟨m, n, D, X, B, hI, hM, tm, tg⟩ := h.ex
  obtain ⟨g, bo, bc, hg, hX, hB, hf, hla, hbn, ho, hbb, hbg, hne⟩ := Iv.hit hI hM hh
  exact cut_range s g hI.ds hh.nm hg hf z hz

theorem cut_p (h : Pv w T b L fs st i) (hi : i < 300) {s : ByteArray} {j : Nat} {f : Rf} (hh : Hit L s j f) (k : Nat) (hk : k ≤ f.bs.length) :
    Calls Try.prog 23 #[.pointer (some ⟨b, 0, none⟩), .string s, .int .i64 k] w fun e w' => e = .returned (.int .i64 (stepC fs).1) ∧ Pn w w' T b (if (stepC fs).1 = 0 then L.set j { f with bs := f.bs.take k, la := min f.la k } else L) fs.tail (st + 1) (i + 1) := by
  letI FO : Inhabited (Nat → Prop) := ⟨T⟩
  obtain ⟨m, n, D, X, B, hI, hM, tm, tg⟩ := h.ex
  have h0 := hI.st0
  have h1 : st < 4611686018427387904 := by have := hI.st1; omega
  obtain ⟨g, bo, bc, hg, hX, hB, hf, hla, hbn, ho, hbb, hbg, hne⟩ := Iv.hit hI hM hh
  rw [stepC_code fs 0]
  by_cases hc : (stepR fs 0).2 = 0
  · rw [if_pos hc, hc]
    refine (cut_ok s g hI.ds h0 h1 hh.nm hg hf hne f.bs ho hbg hbb k hk hc).mono ?_
    rintro e w2 ⟨rfl, hd, hf', hC⟩
    have hC' : Chg w w2 (fun q => q = b ∨ q = g ∨ blk (X g).bo = some q) := hC.mono (fun q _ e => by rcases e with e | e; exact .inl e; exact .inr (.inl e))
    have hLi : Lies w (X g).bo (⟨bo, k, bc, ((min f.la k : Nat) : Int), true, f.nl⟩ : Fm).bo := by rw [hX]; exact fun q hq => .inl hq
    have hI2 := hI.file hg hd ⟨bo, k, bc, ((min f.la k : Nat) : Int), true, f.nl⟩ (f.bs.take k) hf' ((ho.take k hk).beside hC (fun q hq e => by
      rcases e with e | e
      · exact hbb (by rw [hq, e])
      · exact hbg (by rw [hq, e]))) ⟨min f.la k, rfl, by simp only; omega, by simp only; omega⟩ hLi hC'
    exact ⟨rfl, Pn.filed h hM tm tg hI.inj hh hg hI2 ⟨by simp; omega, rfl, hh.th.symm, rfl, rfl⟩ rfl hLi hC'⟩
  · rw [if_neg hc]
    refine (cut_fail s g hI.ds h0 h1 hh.nm hg hf k hk hc).mono ?_
    rintro e w2 ⟨rfl, hd, hC⟩
    exact ⟨rfl, Pn.stepped h hI hM tm tg hd hC⟩

theorem remove_p_old (h : Pv w T b L fs st i) (hi : i < 300) {s : ByteArray} {j : Nat} {f : Rf} (hh : Hit L s j f) (hnl : f.nl = true ∨ (stepC fs).1 ≠ 0) :
    Calls Try.prog 25 #[.pointer (some ⟨b, 0, none⟩), .string s] w fun e w' => e = .returned (.int .i64 (stepC fs).1) ∧ Pn w w' T b (if (stepC fs).1 = 0 then rmL L j f else L) fs.tail (st + 1) (i + 1) := by
  letI FO : Inhabited (Nat → Prop) := ⟨T⟩
  obtain ⟨m, n, D, X, B, hI, hM, tm, tg⟩ := h.ex
  have h0 := hI.st0
  have h1 : st < 4611686018427387904 := by have := hI.st1; omega
  obtain ⟨g, bo, bc, hg, hX, hB, hf, hla, hbn, ho, hbb, hbg, hne⟩ := Iv.hit hI hM hh
  rw [stepC_code fs 0] at hnl ⊢
  by_cases hc : (stepR fs 0).2 = 0
  · rw [if_pos hc, hc]
    have hnl' : f.nl = true := hnl.resolve_right (fun e => e hc)
    unfold rmL
    rw [if_pos hnl']
    rw [hnl'] at hf hX
    refine (remove_old s g hI.ds h0 h1 hh.nm hg hf hne hla f.bs ho hc).mono ?_
    rintro e w2 ⟨rfl, hd, hf', hC⟩
    have hC' : Chg w w2 (fun q => q = b ∨ q = g ∨ blk (X g).bo = some q) := hC.mono (fun q _ e => by rcases e with e | e; exact .inl e; exact .inr (.inl e))
    have hLi : Lies w (X g).bo (⟨bo, f.la, bc, (f.la : Int), false, true⟩ : Fm).bo := by rw [hX]; exact fun q hq => .inl hq
    have hI2 := hI.file hg hd ⟨bo, f.la, bc, (f.la : Int), false, true⟩ (f.bs.take f.la) hf' ((ho.take f.la hla).beside hC (fun q hq e => by
      rcases e with e | e
      · exact hbb (by rw [hq, e])
      · exact hbg (by rw [hq, e]))) ⟨f.la, rfl, by simp only; omega, by simp only; omega⟩ hLi hC'
    exact ⟨rfl, Pn.filed h hM tm tg hI.inj hh hg hI2 ⟨by simp; omega, rfl, rfl, rfl, rfl⟩ rfl hLi hC'⟩
  · rw [if_neg hc]
    refine (remove_fail s g hI.ds h0 h1 hh.nm hg hf hc).mono ?_
    rintro e w2 ⟨rfl, hd, hC⟩
    exact ⟨rfl, Pn.stepped h hI hM tm tg hd hC⟩
end
end Go.Proofs.Ythkbakaodbceiaa

/-
  The program's Remove of a file whose name does not last.
-/
namespace Go.Proofs.Ythkbakaodbceiaa
open Go.RowKit Go.Maps Go.WideMaps
set_option linter.unusedVariables false

section
variable {w w' : World} {b m base : Nat} {fs fs' : List (Int × Int)} {st st' : Int} {n i i' : Nat} {D : DataW Unit} {X : Nat → Fm} {B : Nat → List UInt8} {T T' : Nat → Prop} {L : List Rf}

theorem at_del_same (D : DataW Unit) (s : ByteArray) : at? (D.del (.string s.data.toList)) s none := by
  unfold at?
  rw [atKey_del_same]
theorem at_del_other {D : DataW Unit} {s x : ByteArray} {o : Option Nat} (hne : s ≠ x) (h : at? D s o) : at? (D.del (.string x.data.toList)) s o := by
  unfold at? at *
  rw [atKey_del_other]
  · exact h
  · intro e2
    apply hne
    have e1 : s.data.toList = x.data.toList := by simpa using e2
    cases s; cases x
    simp only [ByteArray.mk.injEq]
    exact Array.toList_inj.1 e1

theorem remove_p (h : Pv w T b L fs st i) (hi : i < 300) {s : ByteArray} {j : Nat} {f : Rf} (hh : Hit L s j f) :
    Calls Try.prog 25 #[.pointer (some ⟨b, 0, none⟩), .string s] w fun e w' => e = .returned (.int .i64 (stepC fs).1) ∧ Pn w w' T b (if (stepC fs).1 = 0 then rmL L j f else L) fs.tail (st + 1) (i + 1) := by
  by_cases ho9 : f.nl = true ∨ (stepC fs).1 ≠ 0
  · exact remove_p_old h hi hh ho9
  have hnl : f.nl = false := by simpa using (fun e => ho9 (.inl e) : ¬ f.nl = true)
  have hc0 : (stepC fs).1 = 0 := Decidable.not_not.1 (fun e => ho9 (.inr e))
  letI FO : Inhabited (Nat → Prop) := ⟨T⟩
  obtain ⟨m, n, D, X, B, hI, hM, tm, tg⟩ := h.ex
  have h0 := hI.st0
  have h1 : st < 4611686018427387904 := by have := hI.st1; omega
  obtain ⟨g, bo, bc, hg, hX, hB, hf, hla, hbn, ho, hbb, hbg, hne⟩ := Iv.hit hI hM hh
  have hn : f.s = s := by obtain ⟨f2, h1, h2⟩ := atN_some hh.at'; rw [hh.get] at h1; cases h1; exact h2
  rw [if_pos hc0, hc0]
  have hc : (stepR fs 0).2 = 0 := by rw [← stepC_code fs 0]; exact hc0
  unfold rmL
  rw [if_neg (by simp [hnl])]
  rw [hnl] at hf
  refine (remove_new s g hI.ds h0 h1 hh.nm hg hf hne hc).mono ?_
  rintro e w2 ⟨rfl, hd, hC⟩
  have hI2 : @Iv ⟨T⟩ w2 b m 0 fs.tail (st + 1) n (D.del (.string s.data.toList)) X B (i + 1) := by
    obtain ⟨es, rfl, hap, hkeys⟩ := hI.ds.mp.entries (string_keyed Try.underlying9)
    have hsz := size_del (k := .string s.data.toList) (⟨es, rfl, hap⟩ : Tidy (.map es : DataW Unit))
    exact hI.less _ X (fun g => ⟨rfl, rfl, rfl, rfl⟩) (fun s g hg => at_del hg) hd (hI.nz.del _) (by omega) (fun s g hg => (hI.fl s g (at_del hg)).chg hC (fun e => e.elim (hI.ne s g (at_del hg)) (hI.ds.mp.row (hI.fl s g (at_del hg)).ty))) (hC.mono (fun k _ e => by rcases e with e | e; exact .inl e; exact .inr (.inl e)))
  refine ⟨rfl, Pn.mk (Iv.owner (T := T) hI2 (fun k hk _ => .inl hk)) (fun t => ?_) (h.so.sub (cut_sub L j)) (.inl tm) (fun t g2 h2 => ⟨.inl (tg t g2 (at_del h2)).1, fun q hq => .inl ((tg t g2 (at_del h2)).2 q hq)⟩) (hC.mono (fun q _ e => e.elim (fun e => by rw [e]; exact h.tb) (fun e => by rw [e]; exact tm))) h.lt h.tb⟩
  rw [lk_cut h.so hh.get]
  by_cases et : t = f.s
  · rw [if_pos et, et, hn]
    exact at_del_same D s
  · rw [if_neg et]
    have et2 : t ≠ s := fun e => et (by rw [hn]; exact e)
    cases hk : lk L t with
    | none => exact at_del_other et2 ((hM t).at_none hk)
    | some f2 =>
      obtain ⟨g2, h2, r⟩ := (hM t).at_some hk
      exact ⟨g2, at_del_other et2 h2, r⟩
end
end Go.Proofs.Ythkbakaodbceiaa

/-
  The program's SyncDir, in the document's words.
-/
namespace Go.Proofs.Ythkbakaodbceiaa
open Go.RowKit Go.Maps Go.WideMaps
set_option linter.unusedVariables false

section
variable {w w' : World} {b m base : Nat} {fs fs' : List (Int × Int)} {st st' : Int} {n i i' : Nat} {D : DataW Unit} {X : Nat → Fm} {B : Nat → List UInt8} {T T' : Nat → Prop} {L : List Rf}

theorem at_total (hz : Nz D) (s : ByteArray) : ∃ o, at? D s o := by
  cases hh : Maps.has D (.string s.data.toList) with
  | true =>
    obtain ⟨g, hg⟩ := hz (.string s.data.toList) (D.atKey (.string s.data.toList) .nil) (fun zd => atKey_indep hh zd .nil)
    exact ⟨some g, hg⟩
  | false =>
    refine ⟨none, ?_⟩
    unfold at?
    exact atKey_of_not_has hh .nil

theorem syncdir_p (h : Pv w T b L fs st i) (hi : i < 300) :
    Calls Try.prog 21 #[.pointer (some ⟨b, 0, none⟩)] w fun e w' => e = .returned (.int .i64 (stepC fs).1) ∧ Pn w w' T b (if (stepC fs).1 = 0 then sdL L else L) fs.tail (st + 1) (i + 1) := by
  letI FO : Inhabited (Nat → Prop) := ⟨T⟩
  obtain ⟨m, n, D, X, B, hI, hM, tm, tg⟩ := h.ex
  have h0 := hI.st0
  have h1 : st < 4611686018427387904 := by have := hI.st1; omega
  rw [stepC_code fs 0]
  by_cases hc : (stepR fs 0).2 = 0
  · rw [if_pos hc, hc]
    refine (syncdir_ok hI.ds h0 h1 X hI.fl (fun s hs => hI.ne s b hs rfl) hI.inj hI.nz hc).mono ?_
    rintro e w2 ⟨rfl, hd, hf, hC⟩
    obtain ⟨es, rfl, hap, hkeys⟩ := hI.ds.mp.entries (string_keyed Try.underlying9)
    have hat : ∀ s g, at? (Lib.deleteFuncD (pdX X) (.map es)) s (some g) → at? (.map es) s (some g) := fun s g hg => at_filter hap hkeys hg
    have hth : ∀ s g, at? (Lib.deleteFuncD (pdX X) (.map es)) s (some g) → (X g).th = true := fun s g hg => by
      have hh := at_has hg
      have hm := came_mem (hap.filter _) (fun q hq => hkeys q (List.mem_filter.1 hq).1) (fun zd => (atKey_indep hh zd .nil).trans hg)
      have := (List.mem_filter.1 hm).2
      simpa [pdX] using this
    have hkeep : ∀ s g, at? (.map es) s (some g) → (X g).th = true → at? (Lib.deleteFuncD (pdX X) (.map es)) s (some g) := fun s g hg ht => by
      have hh := at_has hg
      have hm := came_mem hap hkeys (fun zd => (atKey_indep hh zd .nil).trans hg)
      have hm2 : ((.string s.data.toList, .lit (.int .i64 g)) : Lit × DataW Unit) ∈ es.filter (fun q => !pdX X q.1 q.2) := List.mem_filter.2 ⟨hm, by simp [pdX, ht]⟩
      exact WideAt.atKey_mem .nil (hkeys _ hm) (hap.filter _) hm2
    have hz2 : Nz (Lib.deleteFuncD (pdX X) (.map es)) := fun kl d hd => hI.nz kl d (mem_filter_at hap hkeys hd)
    have hI2 := hI.less _ (fun g => (X g).named) (fun g => ⟨rfl, rfl, rfl, rfl⟩) hat hd hz2 (by unfold Lib.deleteFuncD; rw [size_eq, size_eq]; exact List.length_filter_le _ _) (fun s g hg => hf s g (hat s g hg)) hC
    refine ⟨rfl, Pn.mk (Iv.owner (T := T) hI2 (fun k hk _ => .inl hk)) (fun t => ?_) h.so.sd (.inl tm) (fun t g2 h2 => ⟨.inl (tg t g2 (hat t g2 h2)).1, fun q hq => .inl ((tg t g2 (hat t g2 h2)).2 q hq)⟩) (hC.mono (fun q _ e => ?_)) h.lt h.tb⟩
    · rw [lk_sd h.so]
      cases hk : lk L t with
      | none =>
        obtain ⟨o, ho⟩ := at_total hz2 t
        cases o with
        | none => exact ho
        | some g => have := at_one ((hM t).at_none hk) (hat t g ho); cases this
      | some f =>
        obtain ⟨g, hg, r1, r2, r3, r4, r5⟩ := (hM t).at_some hk
        by_cases ht : f.th = true
        · simp only [ht, if_true]
          have hx : (X g).th = true := by rw [r3]; exact ht
          exact ⟨g, hkeep t g hg hx, r1, r2, by simp [Fm.named, hx], by simp [Fm.named, hx], r5⟩
        · simp only [ht]
          obtain ⟨o, ho⟩ := at_total hz2 t
          cases o with
          | none => exact ho
          | some g2 =>
            have h3 := hth t g2 ho
            have h4 : g = g2 := by have := at_one hg (hat t g2 ho); simpa using this
            subst h4
            rw [r3] at h3
            exact absurd h3 ht
    · rcases e with e | e | ⟨s, e⟩
      · rw [e]; exact h.tb
      · rw [e]; exact tm
      · exact (tg s q e).1
  · rw [if_neg hc]
    refine (syncdir_fail hI.ds h0 h1 hc).mono ?_
    rintro e w2 ⟨rfl, hd, hC⟩
    exact ⟨rfl, Pn.stepped h hI hM tm tg hd hC⟩
end
end Go.Proofs.Ythkbakaodbceiaa
