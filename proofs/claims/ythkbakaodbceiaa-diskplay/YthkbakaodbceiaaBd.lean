import Derived.Test.YthkbakaodbceiaaQ5
import Derived.Maps.AppendAt
import Derived.Test.YthkbakaodbceiaaBb
/-
  The document's Crash: a file in hand, picks put behind picks.
-/
namespace Go.Proofs.Ythkbakaodbceiaa
open Go.RowKit
set_option linter.unusedVariables false

/-- A file in hand at zf. -/
structure Cj (w W : World) (z : Nat) (M : List Rf) (P : List Int) (vp vo : Value) (m zf : Nat) (f : Rf) : Prop where
  c : Ci w W z M P vp vo m
  k : W.heap[zf]? = some (.cells #[.string f.s, .string ⟨f.bs.toArray⟩, .int .i64 (f.la : Int), .bool f.th, .bool f.nl] 101)
  n : ∀ ro n rc, W.cell? ⟨z, 0, none⟩ = some (.slice ro n rc) → blk ro ≠ some zf

section
variable {w W W' : World} {z : Nat} {M : List Rf} {P : List Int} {vp vo : Value} {m zf : Nat} {f : Rf}

theorem Ci.shapeP (h : Ci w W z M P vp vo m) : ∃ po pc, vp = .slice po P.length pc := by
  rcases h.p.2 with ⟨rfl, h0⟩ | ⟨g, c, cur, rfl, _⟩
  · exact ⟨none, 0, by rw [h0]⟩
  · exact ⟨_, _, rfl⟩
theorem Cj.new (h : Ci w W z M P vp vo m) : Cj w (W.alloc (.cells #[.string f.s, .string ⟨f.bs.toArray⟩, .int .i64 (f.la : Int), .bool f.th, .bool f.nl] 101)) z M P vp vo m W.heap.size f := by
  have ga := alloc_grown W (.cells #[.string f.s, .string ⟨f.bs.toArray⟩, .int .i64 (f.la : Int), .bool f.th, .bool f.nl] 101)
  refine ⟨h.grown ga, World.alloc_heap_new W _, fun ro n rc hc e => ?_⟩
  obtain ⟨ro0, rc0, h1, h2⟩ := h.hz
  have h3 := ga.cell (cell_of (i := 0) (v := .slice ro0 M.length rc0) h1 rfl) (by simp)
  rw [h3] at hc
  cases hc
  have := (h2.from_base _ e).2
  omega
theorem Cj.keep {P' : List Int} {vp' vo' : Value} {m' : Nat} {row : Option Nat} (h : Cj w W z M P vp vo m zf f) (hg : W.grownBy W' row) (hr : ∀ r, row = some r → Ty W r 3) (hC : Ci w W' z M P' vp' vo' m') : Cj w W' z M P' vp' vo' m' zf f := by
  have tz : Ty W zf 101 := ⟨_, _, h.k⟩
  obtain ⟨ro0, rc0, h1, h2⟩ := h.c.hz
  have t9 : Ty W z 89 := ⟨_, _, h1⟩
  refine ⟨hC, heap_kept hg h.k (fun e => (hr zf e.symm).ne tz (by decide) rfl), fun ro n rc hc e => ?_⟩
  have h3 := heap_kept hg h1 (fun e => (hr z e.symm).ne t9 (by decide) rfl)
  have h4 := cell_of (i := 0) (v := .slice ro0 M.length rc0) h3 rfl
  rw [h4] at hc
  cases hc
  exact h.n _ _ _ (cell_of (i := 0) (v := .slice ro0 M.length rc0) h1 rfl) e
theorem Cj.cells (h : Cj w W z M P vp vo m zf f) : W.cell? ⟨zf, 0, none⟩ = some (.string f.s) ∧ W.cell? ⟨zf, 1, none⟩ = some (.string ⟨f.bs.toArray⟩) ∧ W.cell? ⟨zf, 2, none⟩ = some (.int .i64 (f.la : Int)) ∧ W.cell? ⟨zf, 3, none⟩ = some (.bool f.th) ∧ W.cell? ⟨zf, 4, none⟩ = some (.bool f.nl) :=
  ⟨cell_of (i := 0) h.k rfl, cell_of (i := 1) h.k rfl, cell_of (i := 2) h.k rfl, cell_of (i := 3) h.k rfl, cell_of (i := 4) h.k rfl⟩
theorem info3x : (Try.prog.info? 3).map (fun i => (i.zero, i.size, i.bytes)) = some (some (.int .i64 0), 1, 8) := by kernel_rfl

theorem wpList_pushP {ops : Array Oper} {rest : List Oper} {o : Oper} {a : Act} {Q : Exit → Act → World → Prop} (hgd : o.guard = none) (s x : Operand) (ho : o.op = .call { callee := .builtin .append, args := #[s, x], argTypes := #[39, 39] })
    (h : Cj w W z M P vp vo m zf f) (hs : a.eval s = vp) (y : Int) (hx : a.eval x = .slice (some ⟨W.heap.size, 0, none⟩) 1 1) (hP : P.length ≤ 100000) {n1 : Nat} (hn1 : P.length + 1 = n1)
    (hK : ∀ po pc w', Cj w w' z M (P ++ [y]) (.slice po n1 pc) vo m zf f → wpList Try.prog ops Q rest (a.put o.dst (.slice po n1 pc)) w') :
    wpList Try.prog ops Q (o :: rest) a (W.alloc (.cells #[.int .i64 y] 3)) := by
  subst hn1
  obtain ⟨i, hi, hz, hzs, hz2⟩ := info_parts info3x
  have ga := alloc_grown W (.cells #[.int .i64 y] 3)
  have h1 := h.keep ga (fun r e => by cases e) (h.c.grown ga)
  have hbs : w.heap.size ≤ (W.alloc (.cells #[.int .i64 y] 3)).heap.size := h1.c.g.size
  refine wpList_append_own_at _ hgd s x 39 ho w.heap.size 3 i (.int .i64 0) 1 8 Try.underlying39 hi hz hzs hz2 rfl (by decide) vp P.length _ hs h1.c.p ⟨W.heap.size, 0, none⟩ 1 1 [.int .i64 y] hx (by simp) (cell_one_new _ _ _) (by simp [Value.oneCell']) (by unfold maxLen; omega) (by omega) hbs ?_
  intro v' w' hown hg _ hb
  have hv : ∃ g c, v' = .slice (some ⟨g, 0, none⟩) (P.length + 1) c := by
    rcases hown.2 with ⟨_, h0⟩ | ⟨g, c, cur, e, _⟩
    · omega
    · exact ⟨g, c, e⟩
  obtain ⟨g, c, rfl⟩ := hv
  refine hK _ _ w' (h1.keep hg (fun r e => (irow_lt h1.c.p r e).2.2) (h1.c.pushP hown hg ?_))
  rcases hb with hb | hb
  · exact .inl hb.symm
  · exact .inr (by simpa [Value.ownBlock] using hb)

theorem wpList_pushO {ops : Array Oper} {rest : List Oper} {o : Oper} {a : Act} {Q : Exit → Act → World → Prop} (hgd : o.guard = none) (s x : Operand) (ho : o.op = .call { callee := .builtin .append, args := #[s, x], argTypes := #[39, 39] })
    (h : Cj w W z M P vp vo m zf f) (hs : a.eval s = vo) (y : Int) (hx : a.eval x = .slice (some ⟨W.heap.size, 0, none⟩) 1 1) (hP : m ≤ 100000) {m1 : Nat} (hm1 : m + 1 = m1)
    (hK : ∀ po pc w', Cj w w' z M P vp (.slice po m1 pc) m1 zf f → wpList Try.prog ops Q rest (a.put o.dst (.slice po m1 pc)) w') :
    wpList Try.prog ops Q (o :: rest) a (W.alloc (.cells #[.int .i64 y] 3)) := by
  subst hm1
  obtain ⟨i, hi, hz, hzs, hz2⟩ := info_parts info3x
  have ga := alloc_grown W (.cells #[.int .i64 y] 3)
  have h1 := h.keep ga (fun r e => by cases e) (h.c.grown ga)
  have hbs : w.heap.size ≤ (W.alloc (.cells #[.int .i64 y] 3)).heap.size := h1.c.g.size
  obtain ⟨xs, hxs⟩ := h1.c.o
  refine wpList_append_own_at _ hgd s x 39 ho w.heap.size 3 i (.int .i64 0) 1 8 Try.underlying39 hi hz hzs hz2 rfl (by decide) vo m xs hs hxs ⟨W.heap.size, 0, none⟩ 1 1 [.int .i64 y] hx (by simp) (cell_one_new _ _ _) (by simp [Value.oneCell']) (by unfold maxLen; omega) (by omega) hbs ?_
  intro v' w' hown hg _ hb
  have hv : ∃ g c, v' = .slice (some ⟨g, 0, none⟩) (m + 1) c := by
    rcases hown.2 with ⟨_, h0⟩ | ⟨g, c, cur, e, _⟩
    · omega
    · exact ⟨g, c, e⟩
  obtain ⟨g, c, rfl⟩ := hv
  refine hK _ _ w' (h1.keep hg (fun r e => (irow_lt hxs r e).2.2) (h1.c.pushO hown hg ?_))
  rcases hb with hb | hb
  · exact .inl hb.symm
  · exact .inr (by simpa [Value.ownBlock] using hb)
end

/-- What a file that is not gone leaves. -/
def cgU (l : List Int) (n : Nat) (f : Rf) : List Int × List Rf :=
  if (f.th && decide (f.la < f.bs.length)) = true then ([pickR l n ((f.bs.length - f.la + 1 : Nat) : Int)], [⟨f.s, f.bs.take (f.la + (pickR l n ((f.bs.length - f.la + 1 : Nat) : Int)).toNat), f.la + (pickR l n ((f.bs.length - f.la + 1 : Nat) : Int)).toNat, true, true⟩])
  else ([], [⟨f.s, f.bs.take f.la, f.la, true, true⟩])
/-- What a file leaves: the picks, and the file or none. -/
def cgF (l : List Int) (n : Nat) (f : Rf) : List Int × List Rf :=
  if (!f.th || !f.nl) = true then
    if pickR l n 2 = 0 then ([0], []) else (pickR l n 2 :: (cgU l (n + 1) f).1, (cgU l (n + 1) f).2)
  else cgU l n f
def cgS (l : List Int) (st : List Int × List Rf) (f : Rf) : List Int × List Rf := (st.1 ++ (cgF l st.1.length f).1, st.2 ++ (cgF l st.1.length f).2)
/-- What the document's Crash leaves: which picks were asked, which files are left. -/
def cgs (l : List Int) (L : List Rf) : List Int × List Rf := L.foldl (cgS l) ([], [])
theorem cgs_snoc (l : List Int) (L : List Rf) (f : Rf) : cgs l (L ++ [f]) = cgS l (cgs l L) f := by simp [cgs]
theorem cgU_len (l : List Int) (n : Nat) (f : Rf) : (cgU l n f).1.length ≤ 1 ∧ (cgU l n f).2.length = 1 := by unfold cgU; split <;> simp
theorem cgF_len (l : List Int) (n : Nat) (f : Rf) : (cgF l n f).1.length ≤ 2 ∧ (cgF l n f).2.length ≤ 1 := by
  have h1 := cgU_len l n f
  have h2 := cgU_len l (n + 1) f
  unfold cgF
  split
  · split <;> simp <;> omega
  · omega
theorem cgs_len0 (l : List Int) (L : List Rf) (st : List Int × List Rf) : (L.foldl (cgS l) st).1.length ≤ st.1.length + 2 * L.length ∧ (L.foldl (cgS l) st).2.length ≤ st.2.length + L.length := by
  induction L generalizing st with
  | nil => simp
  | cons f L ih =>
    have h1 := ih (cgS l st f)
    have h2 := cgF_len l st.1.length f
    have h3 : (cgS l st f).1.length = st.1.length + (cgF l st.1.length f).1.length := by simp [cgS]
    have h4 : (cgS l st f).2.length = st.2.length + (cgF l st.1.length f).2.length := by simp [cgS]
    simp only [List.foldl_cons, List.length_cons]
    omega
theorem cgs_len (l : List Int) (L : List Rf) : (cgs l L).1.length ≤ 2 * L.length ∧ (cgs l L).2.length ≤ L.length := by
  have := cgs_len0 l L ([], [])
  simpa [cgs] using this
end Go.Proofs.Ythkbakaodbceiaa

/-
  What a crash keeps, by the program's picks and by the document's.
-/
namespace Go.Proofs.Ythkbakaodbceiaa
open Go.RowKit
set_option linter.unusedVariables false

/-- Of a file that may come back all lasts. -/
def Gd (L : List Rf) : Prop := ∀ f ∈ L, f.la ≤ f.bs.length ∧ (f.th = false → f.la = f.bs.length)

theorem pick_min (l : List Int) (p : Nat) (z : Int) : pickR l (min p l.length) z = pickR l p z := by
  unfold pickR
  rcases Nat.lt_or_ge p l.length with h | h
  · rw [show min p l.length = p by omega]
  · rw [show min p l.length = l.length by omega, List.getElem?_eq_none (Nat.le_refl _), List.getElem?_eq_none h]

theorem stay_cg (l : List Int) (p : Nat) (f : Rf) (h1 : f.la ≤ f.bs.length) (h2 : f.th = false → f.la = f.bs.length) :
    (staysR l l.length (min p l.length) f.bs.length f.la f.th f.nl).2.2 = min (p + (cgF l p f).1.length) l.length ∧
    ((staysR l l.length (min p l.length) f.bs.length f.la f.th f.nl).2.1 = false → (cgF l p f).2 = []) ∧
    ((staysR l l.length (min p l.length) f.bs.length f.la f.th f.nl).2.1 = true → (staysR l l.length (min p l.length) f.bs.length f.la f.th f.nl).1.toNat ≤ f.bs.length ∧ (cgF l p f).2 = [⟨f.s, f.bs.take (staysR l l.length (min p l.length) f.bs.length f.la f.th f.nl).1.toNat, (staysR l l.length (min p l.length) f.bs.length f.la f.th f.nl).1.toNat, true, true⟩]) := by
  have hp := pick_min l p
  have hp1 : ∀ z, pickR l (min (min p l.length + 1) l.length) z = pickR l (p + 1) z := fun z => by
    rw [show min (min p l.length + 1) l.length = min (p + 1) l.length by omega]
    exact pick_min l (p + 1) z
  have hc : ((f.bs.length - f.la + 1 : Nat) : Int) = (f.bs.length : Int) - f.la + 1 := by omega
  unfold staysR cgF cgU
  rw [hp, hc]
  by_cases hA : (!f.th || !f.nl) = true
  · rw [if_pos hA, if_pos hA]
    by_cases hz : pickR l p 2 = 0
    · rw [if_pos hz, if_pos hz]
      simp only [List.length_cons, List.length_nil]
      exact ⟨(by omega), (by simp), (by simp)⟩
    · rw [if_neg hz, if_neg hz]
      by_cases hs : (f.bs.length : Int) - f.la = 0
      · have hd : (f.th && decide (f.la < f.bs.length)) = false := by simp; intro _; omega
        rw [if_pos hs, if_neg (by simp [hd])]
        simp only [List.length_cons, List.length_nil, Int.toNat_natCast]
        refine ⟨(by omega), (fun e => by cases e), fun _ => ⟨Nat.le_refl _, ?_⟩⟩
        rw [show f.la = f.bs.length by omega]
      · have ht : f.th = true := by
          cases e : f.th with
          | true => rfl
          | false => exact absurd (h2 e) (by omega)
        have hd : (f.th && decide (f.la < f.bs.length)) = true := by simp [ht]; omega
        rw [if_neg hs, if_pos hd, hp1]
        obtain ⟨q0, q1⟩ := pickR_range l (p + 1) ((f.bs.length : Int) - f.la + 1) (by omega)
        simp only [List.length_cons, List.length_nil]
        generalize pickR l (p + 1) ((f.bs.length : Int) - f.la + 1) = x at *
        have e9 : ((f.la : Int) + x).toNat = f.la + x.toNat := by omega
        refine ⟨(by omega), (fun e => by cases e), fun _ => ⟨(by omega), ?_⟩⟩
        rw [e9]
  · rw [if_neg hA, if_neg hA]
    by_cases hs : (f.bs.length : Int) - f.la = 0
    · have hd : (f.th && decide (f.la < f.bs.length)) = false := by simp; intro _; omega
      rw [if_pos hs, if_neg (by simp [hd])]
      simp only [List.length_nil, Int.toNat_natCast]
      refine ⟨(by omega), (fun e => by cases e), fun _ => ⟨Nat.le_refl _, ?_⟩⟩
      rw [show f.la = f.bs.length by omega]
    · have ht : f.th = true := by
        cases e : f.th with
        | true => rfl
        | false => exact absurd (h2 e) (by omega)
      have hd : (f.th && decide (f.la < f.bs.length)) = true := by simp [ht]; omega
      rw [if_neg hs, if_pos hd, hp]
      obtain ⟨q0, q1⟩ := pickR_range l p ((f.bs.length : Int) - f.la + 1) (by omega)
      simp only [List.length_cons, List.length_nil]
      generalize pickR l p ((f.bs.length : Int) - f.la + 1) = x at *
      have e9 : ((f.la : Int) + x).toNat = f.la + x.toNat := by omega
      refine ⟨(by omega), (fun e => by cases e), fun _ => ⟨(by omega), ?_⟩⟩
      rw [e9]

/-- The program's crash and the document's, behind these files. -/
structure Cg (l : List Int) (pre : List Rf) (a : (ByteArray → Option Nat) × Nat) (c : List Int × List Rf) : Prop where
  k : a.2 = min c.1.length l.length
  sub : (c.2.map (·.s)).Sublist (pre.map (·.s))
  no : ∀ s, a.1 s = none → lk c.2 s = none
  yes : ∀ s z, a.1 s = some z → ∃ f, lk pre s = some f ∧ z ≤ f.bs.length ∧ lk c.2 s = some ⟨s, f.bs.take z, z, true, true⟩

theorem lk_app (L K : List Rf) (s : ByteArray) : lk (L ++ K) s = (lk L s).or (lk K s) := by
  unfold lk
  rw [List.find?_append]
theorem lk_one (f : Rf) (s : ByteArray) : lk [f] s = if f.s = s then some f else none := by
  unfold lk
  by_cases e : f.s = s <;> simp [e, List.find?]

theorem Cg.step {l : List Int} {pre : List Rf} {f : Rf} {a : (ByteArray → Option Nat) × Nat} {c : List Int × List Rf} (h : Cg l pre a c) (hn : lk pre f.s = none) (h1 : f.la ≤ f.bs.length) (h2 : f.th = false → f.la = f.bs.length) : Cg l (pre ++ [f]) (crashS l l.length a f.td) (cgS l c f) := by
  obtain ⟨e1, e2, e3⟩ := stay_cg l c.1.length f h1 h2
  have hk := h.k
  have hnc : lk c.2 f.s = none := by
    rw [lk_none] at hn ⊢
    intro g hg e
    have h5 : f.s ∈ pre.map (·.s) := h.sub.subset (List.mem_map.2 ⟨g, hg, e⟩)
    obtain ⟨g2, hg2, e2⟩ := List.mem_map.1 h5
    exact hn g2 hg2 e2
  have hcs : crashS l l.length a f.td = (if (staysR l l.length a.2 f.bs.length f.la f.th f.nl).2.1 = true then (fun x => if x = f.s then some (staysR l l.length a.2 f.bs.length f.la f.th f.nl).1.toNat else a.1 x) else a.1, (staysR l l.length a.2 f.bs.length f.la f.th f.nl).2.2) := rfl
  rw [hcs, hk]
  unfold cgS
  by_cases ht : (staysR l l.length (min c.1.length l.length) f.bs.length f.la f.th f.nl).2.1 = true
  · obtain ⟨q1, q2⟩ := e3 ht
    rw [if_pos ht, q2]
    generalize (staysR l l.length (min c.1.length l.length) f.bs.length f.la f.th f.nl).1.toNat = z0 at *
    refine ⟨by simp only [List.length_append]; exact e1, ?_, fun s hs => ?_, fun s z hs => ?_⟩
    · simp only [List.map_append, List.map_cons, List.map_nil]
      exact h.sub.append (List.Sublist.refl _)
    · simp only at hs
      by_cases e : s = f.s
      · rw [if_pos e] at hs; cases hs
      · rw [if_neg e] at hs
        rw [lk_app, h.no s hs, lk_one, if_neg (fun e9 => e e9.symm)]
        rfl
    · simp only at hs
      by_cases e : s = f.s
      · rw [if_pos e] at hs
        cases hs
        subst e
        refine ⟨f, by rw [lk_app, hn, lk_one, if_pos rfl]; rfl, q1, ?_⟩
        rw [lk_app, hnc, lk_one, if_pos rfl]
        rfl
      · rw [if_neg e] at hs
        obtain ⟨g, g1, g2, g3⟩ := h.yes s z hs
        exact ⟨g, by rw [lk_app, g1]; rfl, g2, by rw [lk_app, g3]; rfl⟩
  · rw [if_neg ht, e2 (by simpa using ht)]
    refine ⟨by simp only [List.length_append]; exact e1, ?_, fun s hs => ?_, fun s z hs => ?_⟩
    · simp only [List.append_nil, List.map_append]
      exact h.sub.trans (List.sublist_append_left _ _)
    · simpa using h.no s hs
    · obtain ⟨g, g1, g2, g3⟩ := h.yes s z hs
      exact ⟨g, by rw [lk_app, g1]; rfl, g2, by simpa using g3⟩

theorem Cg.all {l : List Int} : ∀ (L pre : List Rf) (a : (ByteArray → Option Nat) × Nat) (c : List Int × List Rf), Srt (pre ++ L) → Gd L → Cg l pre a c → Cg l (pre ++ L) ((L.map Rf.td).foldl (crashS l l.length) a) (L.foldl (cgS l) c)
  | [], pre, a, c, _, _, h => by simpa using h
  | f :: L, pre, a, c, hs, hg, h => by
    have hn : lk pre f.s = none := by
      rw [lk_none]
      intro g hg2
      have := List.pairwise_append.1 hs
      exact (this.2.2 g hg2 f (by simp)).ne
    have hf := hg f (by simp)
    have := Cg.all L (pre ++ [f]) _ _ (by simpa using hs) (fun g hg2 => hg g (by simp [hg2])) (h.step hn hf.1 hf.2)
    simpa using this

theorem cg_crash (l : List Int) {L : List Rf} (hs : Srt L) (hg : Gd L) : Cg l L (crashF l l.length (L.map Rf.td)) (cgs l L) := by
  have := Cg.all (l := l) L [] (fun _ => none, 0) ([], []) (by simpa using hs) hg ⟨by simp, by simp, fun s _ => rfl, fun s z e => by cases e⟩
  simpa [crashF, cgs] using this

theorem srt_names {L : List Rf} : Srt L ↔ (L.map (·.s)).Pairwise Ahead := List.pairwise_map.symm
theorem Cg.srt {l : List Int} {L : List Rf} {a : (ByteArray → Option Nat) × Nat} {c : List Int × List Rf} (h : Cg l L a c) (hs : Srt L) : Srt c.2 := srt_names.2 ((srt_names.1 hs).sublist h.sub)

theorem cgs_gd (l : List Int) {L : List Rf} (hs : Srt L) (hg : Gd L) : Gd (cgs l L).2 := by
  have hC := cg_crash l hs hg
  intro f hf
  have h1 := (hC.srt hs).lk_of hf
  cases hk : (crashF l l.length (L.map Rf.td)).1 f.s with
  | none => rw [hC.no _ hk] at h1; cases h1
  | some z =>
    obtain ⟨g, g1, g2, g3⟩ := hC.yes _ z hk
    rw [g3] at h1
    have : (⟨f.s, g.bs.take z, z, true, true⟩ : Rf) = f := by simpa using h1
    rw [← this]
    exact ⟨by simp; omega, fun e => by cases e⟩
end Go.Proofs.Ythkbakaodbceiaa

/-
  Crash with a pick below nought.
-/
namespace Go.Proofs.Ythkbakaodbceiaa
open Go.RowKit Go.Maps Go.Sort Go.Shelf
set_option linter.unusedVariables false
set_option linter.unusedSectionVars false
variable [FO : Inhabited (Nat → Prop)]
attribute [local go_sem] Oper.semAt_some

section
variable {w w' : World} {b m : Nat} {fs : List (Int × Int)} {st : Int} {n : Nat} {D : DataW Unit}

set_option maxRecDepth 100000 in
set_option maxHeartbeats 4000000 in
theorem crash_neg (h : Ds w b m fs st n D) (o : Option Addr) (pn pc : Nat) (l : List Int) (hl : Is' w o pn pc l) (hneg : ¬ ∀ x ∈ l, 0 ≤ x) (hpn : pn ≤ 4611686018427387904) :
    Calls Try.prog 33 #[.pointer (some ⟨b, 0, none⟩), .agg #[.slice o pn pc]] w fun e w' => e = .returned (.tuple #[.pointer none, .int .i64 2]) ∧ w.grownBy w' none := by
  obtain ⟨fo, fn, fc, hd⟩ := h.dk
  have h0 := hd.hd.c0
  have hg1 := alloc_grown w (.cells #[.pointer (some ⟨b, 0, none⟩)] 29)
  have hg2 := alloc_grown (w.alloc (.cells #[.pointer (some ⟨b, 0, none⟩)] 29)) (.cells #[.slice o pn pc] 64)
  have hG2 := grown_trans hg1 hg2 (by simp)
  have b2 := box_own (Boxed.new w 29 (.pointer (some ⟨b, 0, none⟩))) hg2 (fun r e => by cases e)
  have b3 := Boxed.new (w.alloc (.cells #[.pointer (some ⟨b, 0, none⟩)] 29)) 64 (.slice o pn pc)
  rw [World.size_alloc] at b3
  have k2 := b2.cell
  have k3 := b3.cell
  have h02 := hG2.cell h0 (by simp)
  have HN : Hid _ := hneg
  clear hneg
  refine (callsIn_wide (n := 5)).1 ?_
  refine callsIn_of_wp_marks Try.func33 rfl trivial ?_
  simp only [Try.ntmps33, List.size_toArray, List.length_cons, List.length_nil, Nat.reduceAdd, Nat.reduceSub, Array.replicate_succ, Array.replicate_zero, List.push_toArray, List.append_toArray, List.nil_append, List.cons_append]
  gi_wp2_with fail
  generalize (w.alloc (.cells #[.pointer (some ⟨b, 0, none⟩)] 29)).alloc (.cells #[.slice o pn pc] 64) = w2 at *
  clear hg1 hg2
  refine ⟨trivial, callsIn_wide.2 ((made_yes _ _ _ h02).mono ?_)⟩
  rintro e w2 ⟨rfl, rfl⟩
  have hl2 := hl.grown hG2
  have hcell : ∀ i x, l[i]? = some x → ∃ q f, o = some ⟨q, f, none⟩ ∧ w2.cell? ⟨q, f + i, none⟩ = some (.int .i64 x) := fun i x hx => by
    have hi := (List.getElem?_eq_some_iff.1 hx).1
    cases o with
    | none => have := hl2.nil rfl; have := hl2.len; omega
    | some a => obtain ⟨q, f, rfl⟩ := hl2.pl a rfl; exact ⟨q, f, rfl, hl2.k q f rfl i x hx⟩
  have hlen := hl2.len
  gi_wp2_with fail
  gi_loopw [7, 20] (fun _ i wr => ∃ k : Nat, i = .int .i64 k ∧ k ≤ pn ∧ wr = w2 ∧ Hid (∀ x ∈ l.take k, 0 ≤ x)) (fun _ i _ => pn - (intOf i).toNat)
  case atStart => exact ⟨0, rfl, Nat.zero_le _, rfl, (show ∀ x ∈ l.take 0, (0 : Int) ≤ x by simp)⟩
  case round =>
    obtain ⟨k, rfl, hk, rfl, hfi⟩ := hrel
    by_cases hlt : k < pn
    · have hdd : decide ((k : Int) < (pn : Int)) = true := by simp; omega
      have hkl : k < l.length := by omega
      obtain ⟨x, hx⟩ : ∃ x, l[k]? = some x := ⟨_, List.getElem?_eq_getElem hkl⟩
      obtain ⟨q, f, rfl, hq⟩ := hcell k x hx
      have i1 : (0 : Int) ≤ (k : Int) := by omega
      have i2 : (k : Int) < (pn : Int) := by omega
      have htk : l.take (k + 1) = l.take k ++ [x] := by rw [List.take_add_one, hx]; rfl
      by_cases hx0 : x < 0
      · have hdx : decide (x < 0) = true := by simpa using hx0
        clear hcell htk
        gi_wp2_with fail
        exact ⟨_, results_tmp2 rfl _ _ _, rfl, hG2⟩
      · have hdx : decide (x < 0) = false := by simpa using hx0
        have HT : Hid (∀ y ∈ l.take (k + 1), (0 : Int) ≤ y) := (by
          show ∀ y ∈ l.take (k + 1), (0 : Int) ≤ y
          rw [htk]
          intro y hy
          rcases List.mem_append.1 hy with hy | hy
          · exact hfi.out y hy
          · simp at hy; omega)
        clear htk
        gi_wp2
        go_roundw
        case rel => exact ⟨k + 1, by go_num, by omega, by first | trivial | rfl, HT⟩
        case measure => simp [intOf]; omega
    · exfalso
      obtain rfl : k = pn := by omega
      have := hfi.out
      rw [List.take_of_length_le (by omega)] at this
      exact HN.out this
end
end Go.Proofs.Ythkbakaodbceiaa

/-
  The program's New, Copy, Crash, in the document's words.
-/
namespace Go.Proofs.Ythkbakaodbceiaa
open Go.RowKit Go.Maps Go.WideMaps Go.Sort Go.Shelf
set_option linter.unusedVariables false

section
variable {w w' : World} {b m base : Nat} {fs fs' : List (Int × Int)} {st st' : Int} {n i i' : Nat} {D : DataW Unit} {X : Nat → Fm} {B : Nat → List UInt8} {T T' : Nat → Prop} {L : List Rf}

/-- What is new from here on. -/
def Nw (w w' : World) : Nat → Prop := fun k => w.heap.size ≤ k ∧ k < w'.heap.size

theorem Ds.fresh {w0 : World} (h : @Ds ⟨T⟩ w b m fs st n D) (hb : w0.heap.size ≤ b) : @Ds ⟨Nw w0 w⟩ w b m fs st n D := by
  obtain ⟨⟨fo, fn, fc, a1, a2, a3⟩, a4⟩ := h
  refine @Ds.mk ⟨Nw w0 w⟩ _ _ _ _ _ _ _ ⟨fo, fn, fc, a1, a2, fun a e => ?_⟩ a4
  obtain ⟨h1, h2, ⟨h3, h4⟩, h5⟩ := a3 a e
  exact ⟨h1, h2, ⟨h3, ⟨by omega, h5.ty.lt⟩⟩, h5⟩

/-- New. -/
theorem new_p {o : Option Addr} {k c : Nat} {l : List (Int × Int)} (hf : Ft w o k c l) (hn : k ≤ 100) (hob : ∀ a, o = some a → a.block < w.heap.size) :
    Calls Try.prog 10 #[.slice o k c] w fun e w' => (fw l = false ∧ e = .returned (.tuple #[.pointer none, .int .i64 2]) ∧ w.grownBy w' none) ∨ (fw l = true ∧ ∃ b, e = .returned (.tuple #[.pointer (some ⟨b, 0, none⟩), .int .i64 0]) ∧ Pv w' (Nw w w') b [] l 0 0 ∧ w.grownBy w' none) := by
  letI FO : Inhabited (Nat → Prop) := ⟨fun k => w.heap.size ≤ k⟩
  refine (new_any (fun q hq => hq) hf (by omega) hob).mono ?_
  rintro e w2 (⟨h0, rfl, hg⟩ | ⟨h0, rfl, hd, hg⟩)
  · exact .inl ⟨h0, rfl, hg⟩
  · refine .inr ⟨h0, _, rfl, ?_, hg⟩
    have hl := hf.len
    have hdl : w.heap.size + 1 < w2.heap.size := by
      obtain ⟨fo, fn, fc, hd1, _⟩ := hd.ex
      exact hd1.lt
    letI FO : Inhabited (Nat → Prop) := ⟨Nw w w2⟩
    have hd2 := hd.fresh (w0 := w) (by omega)
    have hI := Iv.new hd2 (by omega) (Nat.zero_le _) (Nat.zero_le _) (Nat.zero_le _)
    refine ⟨⟨_, _, _, _, _, hI, fun s => at_none s, ⟨Nat.le_refl _, by omega⟩, fun s g hg => ?_⟩, by simp [Srt], ⟨by omega, hdl⟩, fun k hk => hk.2⟩
    have := at_has hg
    simp [has_eq] at this

theorem size_keys (h : Mp w m n D) : Maps.size D = (strKeys D).length := by
  obtain ⟨es, rfl, _, _⟩ := h.entries (string_keyed Try.underlying9)
  rw [size_eq]
  simp [strKeys]

theorem no_at {s : ByteArray} (h : Maps.has D (.string s.data.toList) = false) : at? D s none := by
  unfold at?
  exact atKey_of_not_has h .nil
theorem at_no {s : ByteArray} (hz : Nz D) (h : at? D s none) : Maps.has D (.string s.data.toList) = false := by
  cases hh : Maps.has D (.string s.data.toList) with
  | false => rfl
  | true =>
    obtain ⟨g, hg⟩ := at_of_has hz hh
    have := at_one h hg.1
    cases this

/-- A disk made anew whose files are told by name. -/
theorem Pv.make {D' : DataW Unit} {nb nm n' base : Nat} {w0 : World} (hd : @Ds ⟨T⟩ w' nb nm fs st n' D') (hb0 : w0.heap.size ≤ nb) (hm0 : w0.heap.size ≤ nm) (hbb : nb < base) (hz : Nz D') (hn' : n' ≤ i) (h0 : 0 ≤ st) (h1 : st ≤ i) (hfl : fs.length ≤ 100 + 100 * i) (hso : Srt L) (hLl : L.length ≤ i) (hLw : ∀ f ∈ L, f.la ≤ f.bs.length ∧ f.bs.length ≤ 3000 * i ∧ nameB f.s = true)
    (hno : ∀ s, lk L s = none → at? D' s none)
    (hyes : ∀ s f, lk L s = some f → ∃ g bo bc, at? D' s (some g) ∧ base ≤ g ∧ Fl w' g bo f.bs.length bc (f.la : Int) f.th f.nl ∧ Ow w' base 5 bo f.bs.length bc f.bs)
    (hinj : ∀ s s' g, at? D' s (some g) → at? D' s' (some g) → s = s')
    (hap : ∀ s s' g g' bo k c bo' k' c' q, at? D' s (some g) → at? D' s' (some g') → w'.cell? ⟨g, 0, none⟩ = some (.slice bo k c) → w'.cell? ⟨g', 0, none⟩ = some (.slice bo' k' c') → blk bo = some q → blk bo' = some q → g = g') : Pv w' (Nw w0 w') nb L fs st i := by
  have hex : ∀ g, ∃ x : Fm × List UInt8, ∀ s, at? D' s (some g) → ∃ f, lk L s = some f ∧ base ≤ g ∧ FlX w' g x.1 ∧ Ow w' base 5 x.1.bo x.1.bn x.1.bc x.2 ∧ x.1.bn = f.bs.length ∧ x.1.la = (f.la : Int) ∧ x.1.th = f.th ∧ x.1.nl = f.nl ∧ x.2 = f.bs := fun g => by
    by_cases hx : ∃ s, at? D' s (some g)
    · obtain ⟨s, hs⟩ := hx
      cases hl : lk L s with
      | none => have := at_one hs (hno s hl); cases this
      | some f =>
        obtain ⟨g', bo, bc, k1, k2, k3, k4⟩ := hyes s f hl
        obtain rfl : g = g' := by simpa using at_one hs k1
        refine ⟨(⟨bo, f.bs.length, bc, (f.la : Int), f.th, f.nl⟩, f.bs), fun s' hs' => ?_⟩
        obtain rfl := hinj s s' g hs hs'
        exact ⟨f, hl, k2, k3, k4, rfl, rfl, rfl, rfl, rfl⟩
    · exact ⟨(⟨none, 0, 0, 0, true, false⟩, []), fun s hs => absurd ⟨s, hs⟩ hx⟩
  obtain ⟨Y, hY⟩ := Classical.skolem.1 hex
  have hmp : Mp w' nm n' D' := @Ds.mp ⟨T⟩ _ _ _ _ _ _ _ hd
  have hbl : nb < w'.heap.size := by
    obtain ⟨fo, fn, fc, hd1, _⟩ := @Ds.ex ⟨T⟩ _ _ _ _ _ _ _ hd
    exact hd1.lt
  letI FO : Inhabited (Nat → Prop) := ⟨Nw w0 w'⟩
  have hd2 := hd.fresh (w0 := w0) hb0
  have hlt : w0.heap.size ≤ base := by omega
  have hM : ∀ s, Mt D' (fun g => (Y g).1) (fun g => (Y g).2) s (lk L s) := fun s => by
    cases hl : lk L s with
    | none => exact hno s hl
    | some f =>
      obtain ⟨g, bo, bc, k1, _⟩ := hyes s f hl
      obtain ⟨f2, r0, _, _, _, r1, r2, r3, r4, r5⟩ := hY g s k1
      rw [hl] at r0
      cases r0
      exact ⟨g, k1, r1, r2, r3, r4, r5⟩
  have hsz : Maps.size D' ≤ i := by
    have h9 := congrArg List.length (keys_sorted hmp hz hM hso (List.Perm.refl (strKeys D')))
    rw [List.length_mergeSort, List.length_map] at h9
    rw [size_keys hmp]
    omega
  have hI : Iv w' nb nm 0 fs st n' D' (fun g => (Y g).1) (fun g => (Y g).2) i :=
    ⟨hd2, h0, h1, fun s g hg => by obtain ⟨f, _, _, q, _⟩ := hY g s hg; exact q,
     fun s g hg => by obtain ⟨f, _, _, _, q, _⟩ := hY g s hg; exact q.rebase (Nat.zero_le _),
     fun s g hg => by
      obtain ⟨f, q0, _, _, _, q1, q2, _⟩ := hY g s hg
      have := hLw f (lk_mem q0)
      exact ⟨f.la, q2, by simp only [q1]; omega, by simp only [q1]; omega⟩,
     hinj, fun s g hg => by obtain ⟨f, _, q, _⟩ := hY g s hg; omega,
     fun s g hg e => by obtain ⟨f, _, _, _, q, _⟩ := hY g s hg; have := (q.from_base nb e).1; omega,
     fun s g hg => Nat.zero_le _,
     fun s s' g g' q hg hg' e1 e2 => by
      obtain ⟨f, _, _, q1, _⟩ := hY g s hg
      obtain ⟨f', _, _, q2, _⟩ := hY g' s' hg'
      exact hap s s' g g' _ _ _ _ _ _ q hg hg' q1.c0 q2.c0 e1 e2,
     hz, hsz, hn', Nat.zero_le _, Nat.zero_le _, Nat.zero_le _, hfl,
     fun s g hg => by obtain ⟨f, q0, _⟩ := hY g s hg; have := (hLw f (lk_mem q0)).2.2; rwa [lk_name q0] at this⟩
  exact ⟨⟨nm, n', D', _, _, hI, hM, ⟨hm0, hmp.lt⟩, fun s g hg => by
    obtain ⟨f, _, q0, q1, q2, _⟩ := hY g s hg
    exact ⟨⟨by omega, q1.lt⟩, fun q hq => ⟨by have := (q2.from_base q hq).1; omega, (q2.from_base q hq).2⟩⟩⟩, hso, ⟨hb0, hbl⟩, fun k hk => hk.2⟩

/-- Copy. -/
theorem copy_p (h : Pv w T b L fs st i) (hi : i ≤ 300) : Calls Try.prog 13 #[.pointer (some ⟨b, 0, none⟩)] w fun e w' => ∃ nb, e = .returned (.pointer (some ⟨nb, 0, none⟩)) ∧ Pv w' (Nw w w') nb L fs st i ∧ w.grownBy w' none := by
  have hlw := h.lw
  obtain ⟨m, n, D, X, B, hI, hM, tm, tg⟩ := h.ex
  have hI' := Iv.owner (T' := fun k => T k ∨ w.heap.size ≤ k) hI (fun k hk _ => .inl hk)
  clear hI
  letI FO : Inhabited (Nat → Prop) := ⟨fun k => T k ∨ w.heap.size ≤ k⟩
  have hI := hI'
  have hsz := hI.sz
  have hfl := hI.fsl
  refine (copy_any (fun q hq => (Or.inr hq : T q ∨ w.heap.size ≤ q)) hI.ds (by omega) X B (hI.fb hi) (by omega)).mono ?_
  rintro e w2 ⟨nb, rfl, nm, ba, n', D', hd, l1, l2, l3, hg, hC⟩
  refine ⟨nb, rfl, Pv.make (base := ba) hd (by omega) l1 l3 hC.nz (by have := hC.cnt; omega) hI.st0 hI.st1 hfl h.so hlw.len hlw.fl (fun s hs => ?_) (fun s f hs => ?_) hC.inj hC.ap, hg⟩
  · refine no_at ?_
    rw [hC.has, at_no hI.nz ((hM s).at_none hs)]
    rfl
  · obtain ⟨g, hg2, r1, r2, r3, r4, r5⟩ := (hM s).at_some hs
    obtain ⟨g', bo', bc', k1, k2, k3, k4⟩ := hC.fl s g hg2 rfl
    unfold FlX at k3
    simp only at k3
    rw [r1, r2, r3, r4] at k3
    rw [r1, r5] at k4
    exact ⟨g', bo', bc', k1, k2, k3, k4⟩

/-- Crash. -/
theorem crash_p (h : Pv w T b L fs st i) (hi : i ≤ 300) (hgd : Gd L) (o : Option Addr) (pn pc : Nat) (l : List Int) (hl : Is' w o pn pc l) (hb : ∀ a, o = some a → a.block < w.heap.size) (hpos : ∀ x ∈ l, 0 ≤ x ∧ x < 9223372036854775808) (hpn : pn ≤ 4611686018427387904) :
    Calls Try.prog 33 #[.pointer (some ⟨b, 0, none⟩), .agg #[.slice o pn pc]] w fun e w' => ∃ nb, e = .returned (.tuple #[.pointer (some ⟨nb, 0, none⟩), .int .i64 0]) ∧ Pv w' (Nw w w') nb (cgs l L).2 [] 0 i ∧ w.grownBy w' none := by
  have hlw := h.lw
  letI FO : Inhabited (Nat → Prop) := ⟨T⟩
  obtain ⟨m, n, D, X, B, hI, hM, tm, tg⟩ := h.ex
  have hsz := hI.sz
  refine (crash_any hI.ds (toldX D X) (fun s => B (blkOf D s)) (hI.filesB (by omega)) (by omega) o pn pc l hl hb hpos hpn).mono ?_
  rintro e w2 ⟨ss, nb, nm, n', ba, D', hp, rfl, hd, hn', hK, l1, l2, l3, l4, hg⟩
  have hss : ss.length = L.length := by have := congrArg List.length (keys_sorted hI.ds.mp hI.nz hM h.so hp); rwa [List.length_mergeSort, List.length_map] at this
  rw [sorted_told hI.ds.mp hI.nz hM h.so hp, ← hl.len] at hK
  have hC := cg_crash l h.so hgd
  have hz : Nz D' := hK.1
  have hmb : w.heap.size ≤ nm := l4.2
  have hinj : ∀ s s' g, at? D' s (some g) → at? D' s' (some g) → s = s' := fun s s' g h1 h2 => by
    obtain ⟨z, bo, bc, _, ⟨_, k2⟩, _⟩ := hK.at h1
    by_cases e : s' = s
    · exact e.symm
    · exact absurd rfl (k2 s' g h2 e).1
  have hlk : ∀ s z, (crashF l l.length (L.map Rf.td)).1 s = some z → ∃ f, lk L s = some f ∧ z ≤ f.bs.length ∧ lk (cgs l L).2 s = some ⟨s, f.bs.take z, z, true, true⟩ ∧ B (blkOf D s) = f.bs := fun s z hs => by
    obtain ⟨f, f1, f2, f3⟩ := hC.yes s z hs
    obtain ⟨g, hg2, _, _, _, _, r5⟩ := (hM s).at_some f1
    exact ⟨f, f1, f2, f3, by rw [blkOf_at hg2]; exact r5⟩
  refine ⟨nb, rfl, Pv.make (base := ba) hd l1 hmb l3 hz (by have := hlw.len; omega) (Int.le_refl _) (by omega) (by simp) (hC.srt h.so) (by have := (cgs_len l L).2; have := hlw.len; omega) (fun f hf => ?_) (fun s hs => ?_) (fun s f hs => ?_) hinj (fun s s' g g' bo k c bo' k' c' q h1 h2 e1 e2 b1 b2 => ?_), hg⟩
  · have h1 := (hC.srt h.so).lk_of hf
    cases hk : (crashF l l.length (L.map Rf.td)).1 f.s with
    | none => rw [hC.no _ hk] at h1; cases h1
    | some z =>
      obtain ⟨g, g1, g2, g3, _⟩ := hlk _ z hk
      rw [g3] at h1
      have e9 : (⟨f.s, g.bs.take z, z, true, true⟩ : Rf) = f := by simpa using h1
      have hgl := hlw.fl g (lk_mem g1)
      rw [lk_name g1] at hgl
      rw [← e9]
      exact ⟨by simp; omega, by simp; omega, hgl.2.2⟩
  · cases hk : (crashF l l.length (L.map Rf.td)).1 s with
    | none => exact (hK.2 s).1 hk
    | some z => obtain ⟨g, g1, g2, g3, _⟩ := hlk _ z hk; rw [g3] at hs; cases hs
  · cases hk : (crashF l l.length (L.map Rf.td)).1 s with
    | none => rw [hC.no _ hk] at hs; cases hs
    | some z =>
      obtain ⟨f0, f1, f2, f3, f4⟩ := hlk _ z hk
      rw [f3] at hs
      cases hs
      obtain ⟨g, bo, bc, k1, k2, k3, k4⟩ := (hK.2 s).2 z hk
      have hlen : (f0.bs.take z).length = z := by simp; omega
      simp only [hlen]
      dsimp only at k4
      rw [f4] at k4
      exact ⟨g, bo, bc, k2, k1.1, k3, k4⟩
  · by_cases e : s = s'
    · subst e
      simpa using at_one h1 h2
    · exfalso
      obtain ⟨z, bo1, bc1, _, ⟨_, k2⟩, k3, _⟩ := hK.at h2
      rw [k3.c0] at e2
      cases e2
      exact (k2 s g h1 e).2 bo k c q e1 b1 b2
end
end Go.Proofs.Ythkbakaodbceiaa
