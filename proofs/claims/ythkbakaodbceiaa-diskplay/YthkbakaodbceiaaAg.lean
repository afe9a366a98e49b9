import Derived.Test.YthkbakaodbceiaaAd
import Derived.Test.YthkbakaodbceiaaAf
import Derived.Test.YthkbakaodbceiaaF3
/-
  A file put into a map of files, as one step of a region that draws its order; what stands at a name behind it.
-/
namespace Go.Proofs.Ythkbakaodbceiaa
open Go.RowKit Go.Maps Go.WideMaps
set_option linter.unusedVariables false

theorem step_put {ops : Array Oper} {o : Oper} {a : Act} {w : World} {K : Act → World → Prop} {Q : Exit → Act → World → Prop} {E : Prop} (hgd : o.guard = none) (m x v : Operand) (hop : o.op = Op.mapUpdate 81 m x v)
    (mb n : Nat) (D : DataW Unit) (hm : a.eval m = .map (some mb)) (h : Mp w mb n D) (hn : n < maxLen) (s : ByteArray) (hs : s.size ≤ maxLen) (hx : a.eval x = .string s) (g : Nat) (hv : a.eval v = .pointer (some ⟨g, 0, none⟩))
    (hK : ∀ w', Mp w' mb (n + 1) (D.put (.string s.data.toList) (.lit (.int .i64 g))) → w.grownBy w' (some mb) → K (a.put o.dst undef) w') :
    if Region.wanted o (yielded ops a.tmps) = true then Oper.wp Try.prog o a w K Q else E := by
  have hw : Region.wanted o (yielded ops a.tmps) = true := by simp [Region.wanted, hgd]
  rw [if_pos hw]
  obtain ⟨w', hrun, r1, r2⟩ := h.update (string_keyed Try.underlying9) Try.underlying81 hn (key := .string s) (val := .pointer (some ⟨g, 0, none⟩)) (keyOf_string_mk Try.underlying9 hs) (d := .lit (.int .i64 g)) (ps := []) rfl
  unfold Oper.wp
  simp [execOp, hop, hm, hx, hv, hrun, Result.andThen]
  exact hK w' r1 r2

theorem at_new (s : ByteArray) (g : Nat) : at? ((DataW.map [] : DataW Unit).put (.string s.data.toList) (.lit (.int .i64 g))) s (some g) := by
  unfold at?
  simp [DataW.put, DataW.atKey, DataW.insert, Lit.sameKey]
theorem at_none (s : ByteArray) : at? (.map [] : DataW Unit) s none := by
  unfold at?
  simp [DataW.atKey]
end Go.Proofs.Ythkbakaodbceiaa

/-
  All's closure over files told, as an iterator whose rounds leave what it reads; what stands at a name behind a file put; what a crash keeps.
-/
namespace Go.Proofs.Ythkbakaodbceiaa
open Go.RowKit Go.Shelf
set_option linter.unusedVariables false
attribute [local go_sem] Oper.semAt_some

/-- Some blocks stay as they are. -/
def Stay (K : Nat → Prop) (A B : World) : Prop := A.heap.size ≤ B.heap.size ∧ ∀ k, K k → B.heap[k]? = A.heap[k]?
theorem Stay.refl (K : Nat → Prop) (A : World) : Stay K A A := ⟨Nat.le_refl _, fun _ _ => rfl⟩
theorem Stay.trans {K : Nat → Prop} {A B C : World} (h : Stay K A B) (h2 : Stay K B C) : Stay K A C := ⟨Nat.le_trans h.1 h2.1, fun k hk => (h2.2 k hk).trans (h.2 k hk)⟩
theorem Stay.chg {K S : Nat → Prop} {A B : World} (h : Chg A B S) (hK : ∀ k, K k → k < A.heap.size) (hS : ∀ k, K k → ¬ S k) : Stay K A B := ⟨h.size, fun k hk => h.block k (hK k hk) (hS k hk)⟩
theorem Stay.grown {K : Nat → Prop} {A B : World} (h : A.grownBy B none) (hK : ∀ k, K k → k < A.heap.size) : Stay K A B := ⟨h.size, fun k hk => h.block k (hK k hk) (by simp)⟩
theorem Tw.stay {w W : World} {K : Nat → Prop} {base : Nat} {ao : Option Addr} {n cap : Nat} {l : List Td} (h : Tw w base ao n cap l) (hB : Stay K w W) (hb : ∀ k, blk ao = some k → K k) : Tw W base ao n cap l := by
  refine ⟨h.len, h.row.1, ?_⟩
  rcases h.row.2 with h2 | ⟨g, c, cur, hv, hg, r, r2⟩
  · exact Or.inl h2
  · cases hv
    exact Or.inr ⟨g, cap, cur, rfl, hg, (hB.2 g (hb g rfl)).trans r, r2⟩

set_option maxRecDepth 100000 in
set_option maxHeartbeats 2000000 in
theorem all1_stay (n' : Nat) (h1 : 1 ≤ n') (w : World) (z base : Nat) (K : Nat → Prop) (ao : Option Addr) (n cap : Nat) (l : List Td) (hz : Boxed w z 75 (.slice ao n cap)) (hw : Tw w base ao n cap l) (hzi : K z) (hai : ∀ k, blk ao = some k → K k) (hKl : ∀ k, K k → k < w.heap.size) (hn : n ≤ 100000) :
    SeqTold Fence.wide n' Try.prog 63 #[.pointer (some ⟨z, 0, none⟩)] (fun t : Td => #[t.val]) (fun _ pre x _ => l[pre.length]? = some x) (Stay K) (fun xs => xs = l) (fun pre => pre <+: l) w := by
  intro q J Jx W hB hJa hJxa hY h0
  have hlen := hw.len
  have hb2 := (hB.cell (p := ⟨z, 0, none⟩) hz.lt).trans hz.cell
  have hwW : Tw W base ao n cap l := hw.below hB (fun k hk => (hw.from_base k hk).2)
  have hKW : ∀ k, K k → k < W.heap.size := fun k hk => Nat.lt_of_lt_of_le (hKl k hk) hB.size
  show CallsIn Fence.wide n' Try.prog 63 #[.func (.yield q) #[] #[], .pointer (some ⟨z, 0, none⟩)] W _
  refine callsIn_of_wp Try.func63 rfl trivial ?_
  simp only [Try.ntmps63, List.size_toArray, List.length_cons, List.length_nil, Nat.reduceAdd, Nat.reduceSub, Array.replicate_succ, Array.replicate_zero, List.push_toArray, List.append_toArray, List.nil_append, List.cons_append]
  gi_wp2
  gi_loopw [4, 7] (fun _ i wr => ∃ k : Nat, i = .int .i64 k ∧ k ≤ n ∧ Stay K W wr ∧ J (l.take k) wr) (fun _ i _ => n - (intOf i).toNat)
  case atStart =>
    exact ⟨0, rfl, Nat.zero_le _, Stay.refl _ _, by simpa using h0⟩
  case round =>
    obtain ⟨k, rfl, hk, hBr, hJ⟩ := hrel
    by_cases hlt : k < n
    · have hd : decide ((k : Int) < (n : Int)) = true := by simp; omega
      have hkl : k < l.length := by omega
      obtain ⟨t, ht⟩ : ∃ t, l[k] = t := ⟨_, rfl⟩
      have ht? : l[k]? = some t := by rw [List.getElem?_eq_getElem hkl, ht]
      obtain ⟨g, rfl, _, _⟩ := hwW.addr (by omega)
      have hwr := hwW.stay hBr hai
      have c0 := hwr.at ht? 0 (by decide)
      have c1 := hwr.at ht? 1 (by decide)
      have c2 := hwr.at ht? 2 (by decide)
      have c3 := hwr.at ht? 3 (by decide)
      have c4 := hwr.at ht? 4 (by decide)
      simp only [Td.cells, List.getElem?_cons_zero, List.getElem?_cons_succ, Nat.add_zero] at c0 c1 c2 c3 c4
      have ga := alloc_grown wr (.cells #[.string t.s, .int .i64 t.sz, .int .i64 t.la, .bool t.th, .bool t.nl] 55)
      have hJ2 := hJa _ _ _ _ hJ ga (fun q e => by cases e)
      have hB2 : Stay K W _ := hBr.trans (Stay.grown ga (fun k hk => Nat.lt_of_lt_of_le (hKW k hk) hBr.1))
      obtain ⟨fn, tmps, assign, body, hy, hR⟩ := hY (l.take k) t _ hJ2 (by rw [List.length_take, Nat.min_eq_left (by omega)]; exact ht?)
      simp only [Td.val, toldV] at hy
      have htk : l.take k ++ [t] = l.take (k + 1) := by rw [List.take_succ_eq_append_getElem hkl, ht]
      rw [htk] at hR
      have b1 : (0 : Int) ≤ (k : Int) := by omega
      have b2 : (k : Int) < (n : Int) := by omega
      gi_wp2
      refine hR.mono ?_
      clear hy hR hJ hJ2 c0 c1 c2 c3 c4
      rintro e W3 (⟨rfl, hJ3, hk3⟩ | ⟨rfl, hJx3⟩)
      · gi_wp2
        go_roundw
        case rel => exact ⟨k + 1, by go_num, by omega, hB2.trans hk3, hJ3⟩
        case measure => simp [intOf]; omega
      · gi_wp2
        refine bodyPost_ret (results_none rfl _ _ _) rfl ?_
        exact ⟨⟨_, rfl⟩, .inr ⟨_, List.take_prefix _ _, hJx3⟩⟩
    · obtain rfl : k = n := by omega
      gi_wp2
      go_end0
      exact ⟨⟨_, rfl⟩, .inl ⟨_, List.take_of_length_le (by omega), hJ⟩⟩

theorem str_inj {s t : ByteArray} (h : Lit.string s.data.toList = Lit.string t.data.toList) : s = t := by
  have h1 : s.data.toList = t.data.toList := by injection h
  have h2 : s.data = t.data := by rw [← Array.toArray_toList (xs := s.data), h1, Array.toArray_toList]
  cases s; cases t; simpa using h2
/-- What stands at a name behind a file put. -/
theorem at_put {D : DataW Unit} {n : Nat} {w : World} {m : Nat} (h : Mp w m n D) (s t : ByteArray) (g : Nat) (o : Option Nat) (ht : at? D t o) : at? (D.put (.string s.data.toList) (.lit (.int .i64 g))) t (if t = s then some g else o) := by
  unfold at? at *
  by_cases e : t = s
  · subst e
    rw [if_pos rfl, Maps.atKey_put_same h.isMap (show WideAt.IsKeyLit (.string _) from trivial)]
  · rw [if_neg e, Maps.atKey_put_other (fun h9 => e (str_inj h9)), ht]

/-- What a crash has kept, and where its picks stand, behind one file more. -/
def crashS (l : List Int) (n : Nat) (st : (ByteArray → Option Nat) × Nat) (t : Td) : (ByteArray → Option Nat) × Nat :=
  let r := staysR l n st.2 t.sz t.la t.th t.nl
  (if r.2.1 then fun x => if x = t.s then some r.1.toNat else st.1 x else st.1, r.2.2)
def crashF (l : List Int) (n : Nat) (pre : List Td) : (ByteArray → Option Nat) × Nat := pre.foldl (crashS l n) (fun _ => none, 0)
theorem crashF_snoc (l : List Int) (n : Nat) (pre : List Td) (t : Td) : crashF l n (pre ++ [t]) = crashS l n (crashF l n pre) t := by simp [crashF]

theorem Ow.chg {w w' : World} {base : Nat} {e : TypeId} {ao : Option Addr} {n cap : Nat} {l : List UInt8} {S : Nat → Prop} (h : Ow w base e ao n cap l) (hc : Chg w w' S) (hb : ∀ k, blk ao = some k → ¬ S k) : Ow w' base e ao n cap l := by
  refine ⟨h.len, h.row.1, ?_⟩
  rcases h.row.2 with h2 | ⟨g, c, cur, hv, hg, r, r2⟩
  · exact Or.inl h2
  · cases hv
    exact Or.inr ⟨g, cap, cur, rfl, hg, (hc.block g (lt_of_heap r) (hb g rfl)).trans r, r2⟩

/-- A file's block and row are no other file's. -/
def Lone (w : World) (D : DataW Unit) (s : ByteArray) (g : Nat) (bo : Option Addr) : Prop :=
  ∀ t g', at? D t (some g') → t ≠ s → g' ≠ g ∧ ∀ bo' n c q, w.cell? ⟨g', 0, none⟩ = some (.slice bo' n c) → blk bo' = some q → blk bo ≠ some q
/-- The files that a crash has kept lie in the new map. -/
def Kept (w : World) (base : Nat) (D : DataW Unit) (K : ByteArray → Option Nat) (B : ByteArray → List UInt8) : Prop :=
  (∀ kl d, (∀ zd, D.atKey kl zd = d) → ∃ g : Nat, d = .lit (.int .i64 g)) ∧ ∀ s, (K s = none → at? D s none) ∧ ∀ z, K s = some z → ∃ g bo bc, (base ≤ g ∧ Lone w D s g bo) ∧ at? D s (some g) ∧ Fl w g bo z bc z true true ∧ Ow w base 5 bo z bc ((B s).take z)
theorem Kept.at {w : World} {base : Nat} {D : DataW Unit} {K : ByteArray → Option Nat} {B : ByteArray → List UInt8} (h : Kept w base D K B) {s : ByteArray} {g : Nat} (hg : at? D s (some g)) : ∃ z bo bc, K s = some z ∧ (base ≤ g ∧ Lone w D s g bo) ∧ Fl w g bo z bc z true true ∧ Ow w base 5 bo z bc ((B s).take z) := by
  cases hK : K s with
  | none => have := at_one hg ((h.2 s).1 hK); cases this
  | some z =>
    obtain ⟨g', bo, bc, h1, h2, h3, h4⟩ := (h.2 s).2 z hK
    obtain rfl : g = g' := by simpa using at_one hg h2
    exact ⟨z, bo, bc, rfl, h1, h3, h4⟩
theorem Kept.chg {w w' : World} {base : Nat} {D : DataW Unit} {K : ByteArray → Option Nat} {B : ByteArray → List UInt8} {S : Nat → Prop} (h : Kept w base D K B) (hc : Chg w w' S) (hS : ∀ k t, S k → base ≤ k → Ty w k t → False) : Kept w' base D K B := by
  refine ⟨h.1, fun s => ⟨(h.2 s).1, fun z hz => ?_⟩⟩
  obtain ⟨g, bo, bc, h1, h2, h3, h4⟩ := (h.2 s).2 z hz
  refine ⟨g, bo, bc, ⟨h1.1, fun t g' ht hne => ⟨(h1.2 t g' ht hne).1, fun bo' n c q hq => ?_⟩⟩, h2, h3.chg hc (fun e => hS g 93 e h1.1 h3.ty), h4.chg hc (fun k hk e => hS k 5 e (h4.from_base k hk).1 (h4.ty k hk))⟩
  obtain ⟨z', bo2, bc2, _, k1, k2, _⟩ := h.at ht
  have e2 := hc.cell k2.c0 (fun e => hS g' 93 e k1.1 k2.ty)
  rw [e2] at hq
  cases hq
  exact (h1.2 t g' ht hne).2 _ _ _ q k2.c0
/-- Where the kept files lay: a later row is none of theirs. -/
theorem Kept.below {w w' : World} {base : Nat} {D : DataW Unit} {K : ByteArray → Option Nat} {B : ByteArray → List UInt8} {S : Nat → Prop} (h : Kept w base D K B) (hc : Chg w w' S) (hS : ∀ k t, S k → base ≤ k → Ty w k t → False) : ∀ t g', at? D t (some g') → g' < w.heap.size ∧ ∀ bo' n c q, w'.cell? ⟨g', 0, none⟩ = some (.slice bo' n c) → blk bo' = some q → q < w.heap.size := by
  intro t g' ht
  obtain ⟨z', bo2, bc2, _, k1, k2, k3⟩ := h.at ht
  refine ⟨k2.lt, fun bo' n c q hq hb => ?_⟩
  have e2 := hc.cell k2.c0 (fun e => hS g' 93 e k1.1 k2.ty)
  rw [e2] at hq
  cases hq
  exact (k3.from_base q hb).2
theorem Kept.no (w : World) (base : Nat) (B : ByteArray → List UInt8) : Kept w base (.map []) (fun _ => none) B :=
  ⟨fun kl d hd => (by
    have h1 := hd .nil
    have h2 := hd (.agg [])
    rw [← h1] at h2
    cases h2), fun s => ⟨fun _ => at_none s, fun z hz => (by cases hz)⟩⟩
theorem Kept.put {w : World} {base : Nat} {D : DataW Unit} {K : ByteArray → Option Nat} {B : ByteArray → List UInt8} (h : Kept w base D K B) {w0 : World} {m n : Nat} (hm : Mp w0 m n D) (s : ByteArray) (g z : Nat) {bo : Option Addr} {bc : Nat} (hg : base ≤ g) (hf : Fl w g bo z bc z true true) (hb : Ow w base 5 bo z bc ((B s).take z)) (hal : Lone w D s g bo) :
    Kept w base (D.put (.string s.data.toList) (.lit (.int .i64 g))) (fun x => if x = s then some z else K x) B := by
  have hbk : ∀ t g', t ≠ s → at? (D.put (.string s.data.toList) (.lit (.int .i64 g))) t (some g') → at? D t (some g') := fun t g' hne ht => by
    unfold at? at *
    rwa [Maps.atKey_put_other (fun h9 => hne (str_inj h9))] at ht
  have hsame : ∀ g', at? (D.put (.string s.data.toList) (.lit (.int .i64 g))) s (some g') → g' = g := fun g' ht => by
    unfold at? at ht
    rw [Maps.atKey_put_same hm.isMap (show WideAt.IsKeyLit (.string _) from trivial)] at ht
    have : (g : Int) = g' := by simpa using ht
    omega
  refine ⟨fun kl d hd => ?_, fun t => ?_⟩
  · by_cases e : kl = .string s.data.toList
    · subst e
      exact ⟨g, by rw [← hd .nil, Maps.atKey_put_same hm.isMap (show WideAt.IsKeyLit (.string _) from trivial)]⟩
    · exact h.1 kl d (fun zd => by rw [← hd zd, Maps.atKey_put_other e])
  by_cases e : t = s
  · subst e
    refine ⟨fun h9 => by simp at h9, fun z' h9 => ?_⟩
    simp only [if_true] at h9
    cases h9
    refine ⟨g, bo, bc, ⟨hg, fun t' g' ht hne => hal t' g' (hbk t' g' hne ht) hne⟩, ?_, hf, hb⟩
    cases hK : K t with
    | none => simpa using at_put hm t t g none ((h.2 t).1 hK)
    | some z' =>
      obtain ⟨g', _, _, _, h2, _⟩ := (h.2 t).2 z' hK
      simpa using at_put hm t t g (some g') h2
  · refine ⟨fun h9 => ?_, fun z' h9 => ?_⟩
    · simp only [e, if_false] at h9
      simpa [e] using at_put hm s t g none ((h.2 t).1 h9)
    · simp only [e, if_false] at h9
      obtain ⟨g', bo', bc', h1, h2, h3⟩ := (h.2 t).2 z' h9
      refine ⟨g', bo', bc', ⟨h1.1, fun t' g2 ht hne => ?_⟩, by simpa [e] using at_put hm s t g (some g') h2, h3⟩
      by_cases e2 : t' = s
      · subst e2
        obtain rfl := hsame g2 ht
        have ha := hal t g' h2 e
        refine ⟨fun e3 => ha.1 e3.symm, fun bo2 n c q hq hbq e4 => ?_⟩
        rw [hf.c0] at hq
        cases hq
        exact ha.2 _ _ _ q h3.1.c0 e4 hbq
      · exact h1.2 t' g2 (hbk t' g2 e2 ht) hne
end Go.Proofs.Ythkbakaodbceiaa
