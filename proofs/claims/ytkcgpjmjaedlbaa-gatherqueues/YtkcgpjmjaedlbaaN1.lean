/-
  Blocks in a range that stay as they are; batches in memory; plans' sums.
-/
import Derived.Test.YtkcgpjmjaedlbaaHM
import Derived.Test.YtkcgpjmjaedlbaaW1
namespace Go.Proofs.Ytkcgpjmjaedlbaa
open Go.RowKit
set_option linter.unusedVariables false

/-- The blocks from lo on, below hi, are as they were. -/
structure Eqv (lo hi : Nat) (w w' : World) : Prop where
  top : hi ≤ w.heap.size
  size : w.heap.size ≤ w'.heap.size
  block : ∀ k, lo ≤ k → k < hi → w'.heap[k]? = w.heap[k]?
theorem Eqv.refl {lo hi : Nat} {w : World} (h : hi ≤ w.heap.size) : Eqv lo hi w w := ⟨h, Nat.le_refl _, fun _ _ _ => rfl⟩
theorem Eqv.trans {lo hi : Nat} {w w' w'' : World} (h : Eqv lo hi w w') (k : Eqv lo hi w' w'') : Eqv lo hi w w'' := ⟨h.top, Nat.le_trans h.size k.size, fun q h1 h2 => (k.block q h1 h2).trans (h.block q h1 h2)⟩
theorem Eqv.of_grown {lo hi : Nat} {w w' : World} (h : w.grownBy w' none) (ht : hi ≤ w.heap.size) : Eqv lo hi w w' := ⟨ht, h.size, fun k _ h2 => h.block k (by omega) (by simp)⟩
theorem Eqv.of_below {lo hi B : Nat} {w w' : World} (h : Below B w w') (ht : hi ≤ w.heap.size) (hB : hi ≤ B) : Eqv lo hi w w' := ⟨ht, h.size, fun k _ h2 => h.block k (by omega)⟩
theorem Eqv.of_chg {lo hi : Nat} {S : Nat → Prop} {w w' : World} (h : Chg w w' S) (ht : hi ≤ w.heap.size) (hS : ∀ k, S k → k < lo) : Eqv lo hi w w' := ⟨ht, h.size, fun k h1 h2 => h.block k (by omega) (fun e => by have := hS k e; omega)⟩
theorem Eqv.cell {lo hi : Nat} {w w' : World} (h : Eqv lo hi w w') {a : Addr} {v : Value} (hc : w.cell? a = some v) (h1 : lo ≤ a.block) (h2 : a.block < hi) : w'.cell? a = some v := by
  rw [World.cell?_of_block (h.block a.block h1 h2)]
  exact hc
theorem Bs.eqv {lo hi : Nat} {w w' : World} {ao : Option Addr} {n cap : Nat} {l : List UInt8} (h : Bs w ao n cap l) (e : Eqv lo hi w w') (hin : ∀ a, ao = some a → lo ≤ a.block ∧ a.block < hi) : Bs w' ao n cap l :=
  ⟨h.len, h.room, h.top, h.nil, fun a ha j u hu => e.cell (h.cells a ha j u hu) (by rw [add_block]; exact (hin a ha).1) (by rw [add_block]; exact (hin a ha).2)⟩
theorem Vs.eqv {lo hi : Nat} {w w' : World} {ao : Option Addr} {n cap : Nat} {l : List Value} (h : Vs w ao n cap l) (e : Eqv lo hi w w') (hin : ∀ a, ao = some a → lo ≤ a.block ∧ a.block < hi) : Vs w' ao n cap l :=
  ⟨h.len, h.room, h.top, h.nil, h.one, fun a ha j u hu => e.cell (h.cells a ha j u hu) (by rw [add_block]; exact (hin a ha).1) (by rw [add_block]; exact (hin a ha).2)⟩
/-- A list of records lies within a range. -/
structure Rin (lo hi : Nat) (x : Rl) : Prop where
  o : ∀ a, x.o = some a → lo ≤ a.block ∧ a.block < hi
  k : ∀ r ∈ x.l, ∀ a, r.ko = some a → lo ≤ a.block ∧ a.block < hi
  v : ∀ r ∈ x.l, ∀ a, r.vo = some a → lo ≤ a.block ∧ a.block < hi
theorem Rin.mono {lo hi lo' hi' : Nat} {x : Rl} (h : Rin lo hi x) (h1 : lo' ≤ lo) (h2 : hi ≤ hi') : Rin lo' hi' x :=
  ⟨fun a ha => by have := h.o a ha; omega, fun r hr a ha => by have := h.k r hr a ha; omega, fun r hr a ha => by have := h.v r hr a ha; omega⟩
theorem Rs.eqv {lo hi : Nat} {w w' : World} {x : Rl} (h : Rs w x.o x.n x.c x.l) (e : Eqv lo hi w w') (hin : Rin lo hi x) : Rs w' x.o x.n x.c x.l :=
  ⟨h.len, h.room, h.top, h.nil, fun a ha hn => by obtain ⟨b, o, h1, h2⟩ := h.place a ha hn; exact ⟨b, o, h1, Nat.lt_of_lt_of_le h2 e.size⟩,
    fun b o ha j r hr => by
      obtain ⟨h1, h2, h3⟩ := h.cells b o ha j r hr
      have hb := hin.o _ ha
      exact ⟨e.cell h1 hb.1 hb.2, e.cell h2 hb.1 hb.2, e.cell h3 hb.1 hb.2⟩,
    fun r hr => by
      have hk := h.shows r hr
      exact ⟨hk.low, hk.high, hk.key.eqv e (hin.k r hr), hk.value.eqv e (hin.v r hr), hk.kb, hk.vb⟩⟩

theorem Pn.sum {take : Int} {L : List Rl} {ps : List Nat} (h : Pn take L ps) : ps.sum = L.length := by
  induction h with
  | nil => rfl
  | cons h1 h2 h3 ih =>
    have := h2.le
    rw [List.sum_cons, ih, List.length_drop]
    omega
theorem sum_take_succ {ps : List Nat} {j : Nat} (h : j < ps.length) : (ps.take (j + 1)).sum = (ps.take j).sum + ps[j] := by
  rw [List.take_succ_eq_append_getElem h, List.sum_append]
  simp
theorem sum_take_le (ps : List Nat) (j : Nat) : (ps.take j).sum ≤ ps.sum := by
  have h := congrArg List.sum (List.take_append_drop j ps)
  rw [List.sum_append] at h
  omega
theorem Pn.pos {take : Int} {L : List Rl} {ps : List Nat} (h : Pn take L ps) : ∀ p ∈ ps, 1 ≤ p := by
  induction h with
  | nil => intro p hp; cases hp
  | cons h1 h2 h3 ih =>
    intro p hp
    rcases List.mem_cons.1 hp with rfl | hp
    · exact h2.pos h1
    · exact ih p hp
theorem flat_next (L : List Rl) (s p : Nat) : flat (L.take (s + p)) = flat (L.take s) ++ flat ((L.drop s).take p) := by
  rw [List.take_add, flat_append]

/-- What the batches are. -/
def Bsay (base : Int) (L : List Rl) (ps : List Nat) (bs : List (Int × Rl)) : Prop :=
  ∀ j x p, bs[j]? = some x → ps[j]? = some p → x.1 = base + ((flat (L.take (ps.take j).sum)).length : Nat) ∧ x.2.n = (flat ((L.drop (ps.take j).sum).take p)).length ∧ ds x.2.l = ds (flat ((L.drop (ps.take j).sum).take p))

/-- Batches in a row, the plan beside it, each in a box. -/
structure Bt (w : World) (lo hi bb bp gb : Nat) (po : Option Addr) (pl pc : Nat) (ps : List Nat) (bs : List (Int × Rl)) : Prop where
  top : hi ≤ w.heap.size
  boxB : w.heap[bb]? = some (.cells #[.slice (some ⟨gb, 0, none⟩) pl pl] 92)
  boxP : w.heap[bp]? = some (.cells #[.slice po pl pc] 29)
  inB : lo ≤ bb ∧ bb < hi
  inP : lo ≤ bp ∧ bp < hi
  inG : lo ≤ gb ∧ gb < hi
  inO : ∀ a, po = some a → lo ≤ a.block ∧ a.block < hi
  lps : ps.length = pl
  lbs : bs.length = pl
  plan : Vs w po pl pc (ps.map iv)
  row : ∀ j x, bs[j]? = some x → w.cell? ⟨gb, j * 2, none⟩ = some (.int .i64 x.1) ∧ w.cell? ⟨gb, j * 2 + 1, none⟩ = some (.slice x.2.o x.2.n x.2.c) ∧ Rs w x.2.o x.2.n x.2.c x.2.l ∧ Rin lo hi x.2
theorem Bt.eqv {w w' : World} {lo hi bb bp gb : Nat} {po : Option Addr} {pl pc : Nat} {ps : List Nat} {bs : List (Int × Rl)} (h : Bt w lo hi bb bp gb po pl pc ps bs) (e : Eqv lo hi w w') : Bt w' lo hi bb bp gb po pl pc ps bs :=
  ⟨Nat.le_trans h.top e.size, (e.block _ h.inB.1 h.inB.2).trans h.boxB, (e.block _ h.inP.1 h.inP.2).trans h.boxP, h.inB, h.inP, h.inG, h.inO, h.lps, h.lbs, h.plan.eqv e h.inO,
    fun j x hx => by obtain ⟨h1, h2, h3, h4⟩ := h.row j x hx; exact ⟨e.cell h1 h.inG.1 h.inG.2, e.cell h2 h.inG.1 h.inG.2, h3.eqv e h4, h4⟩⟩

theorem Try.info94 : (Try.prog.info? 94).map (fun i => (i.zero, i.size, i.bytes)) = some (some (.agg #[.int .i64 0, .slice none 0 0]), 2, 32) := by kernel_rfl
section
variable (w : World)
/-- 'make([]Batch, n)'. -/
theorem wpList_make_bts {ops : Array Oper} {rest : List Oper} {o : Oper} {a : Act} {Q : Exit → Act → World → Prop} (hgd : o.guard = none) (lo co : Operand) (ho : o.op = Op.makeSlice 92 lo co)
    (n : Nat) (hl : a.eval lo = .int .i64 n) (hc : a.eval co = .int .i64 n) (hb : n ≤ 100000)
    (h : ∀ cur w', w'.heap[w.heap.size]? = some (.cells cur 94 (0, 0)) → cur.size = n * 2 → w.grownBy w' none → w'.heap.size = w.heap.size + 1 → wpList Try.prog ops Q rest (a.put o.dst (.slice (some ⟨w.heap.size, 0, none⟩) n n)) w') : wpList Try.prog ops Q (o :: rest) a w := by
  obtain ⟨i, hi, hz, hz1, hz2⟩ := info_parts Try.info94
  refine wpList_plain hgd fun K hK => ?_
  have hr := run_make (P := Try.prog) w 92 94 i _ Try.underlying92 hi hz .i64 .i64 n n (by omega) (by omega) (by rw [hz2]; omega) (by omega)
  unfold Oper.wp
  simp [execOp, ho, hl, hc, hr, Result.andThen]
  exact hK _ _ (h _ _ (heap_alloc_new w _) (by simp [size_madeCells, hz1]) (World.grownBy_alloc w _ none) (by simp))
end
theorem heap_kept {w w' : World} {k : Nat} {o : Obj} {row : Option Nat} (hg : w.grownBy w' row) (h : w.heap[k]? = some o) (hr : some k ≠ row) : w'.heap[k]? = some o := (hg.block k (Array.getElem?_eq_some_iff.1 h).1 hr).trans h
theorem lt_of_heap {w : World} {k : Nat} {o : Obj} (h : w.heap[k]? = some o) : k < w.heap.size := (Array.getElem?_eq_some_iff.1 h).1

/-- When Batches says no. -/
def Bno (take base : Int) (L : List Rl) (c : Int) : Prop := (refR take L ≠ 0 ∧ c = refR take L) ∨ (refR take L = 0 ∧ (base < 0 ∨ 9007199254740992 < base) ∧ c = 2) ∨ (refR take L = 0 ∧ 0 ≤ base ∧ base ≤ 9007199254740992 ∧ 9007199254740993 < base + ((flat L).length : Nat) ∧ c = 8)
set_option maxRecDepth 100000 in
set_option maxHeartbeats 1000000 in
theorem batches_no (w : World) (take base : Int) (ao : Option Addr) (n cap : Nat) (L : List Rl) (ha : Ls w ao n cap L) (hs : ∀ x ∈ L, x.n ≤ 4096) (hn3 : n ≤ 300) (c : Int) (h : Bno take base L c) :
    Calls Try.prog 33 #[.int .i64 take, .int .i64 base, .slice ao n cap] w fun e w' => e = .returned (.tuple #[.nilFunc, .int .i64 c]) ∧ w.grownBy w' none := by
  have hp := plan_all w take ao n cap L ha hs (by omega)
  have HB : Hid (Bno take base L c) := h
  clear h
  go_enter Try.func33, Try.ntmps33
  go_wp2_with fail
  refine hp.mono ?_
  rintro e w1 ⟨⟨po, pn, pc, pe, rfl, hP⟩, hg1⟩
  have ga := alloc_grown w1 (.cells #[.slice po pn pc] 29)
  have hG1 := grown_trans hg1 ga (by simp)
  have HP : Hid (PlnF w1 take L po pn pc pe) := hP
  clear hp hP
  by_cases hr : refR take L = 0
  · obtain rfl : pe = 0 := by
      rcases HP.out with ⟨h1, _⟩ | ⟨_, h2, _⟩
      · exact absurd hr h1
      · exact h2
    have ho := off_all (w1.alloc (.cells #[.slice po pn pc] 29)) base ao n cap L (ha.grown hG1) hs (by omega)
    obtain ⟨hl1, hl2⟩ := refR_pos hr
    have HL : Hid (lref L = 0) := hl2
    clear hr hl2
    go_wp2_with fail
    refine ho.mono ?_
    rintro e w2 ⟨⟨oo, on, oc, oe, er, rfl, hO⟩, hg2⟩
    have HO : Hid (er = c ∧ c ≠ 0) := by
      have hr0 : refR take L = 0 := by unfold refR; rw [if_neg (by omega)]; exact HL.out
      rcases HB.out with ⟨h1, _⟩ | ⟨_, h2, h3⟩ | ⟨_, h1, h2, h3, h4⟩
      · exact absurd hr0 h1
      · rcases hO with ⟨_, _, _, e1⟩ | ⟨q1, q2, _⟩ | ⟨q1, q2, _⟩ | ⟨q1, q2, _⟩
        · exact ⟨by omega, by omega⟩
        · omega
        · omega
        · omega
      · rcases hO with ⟨q, _⟩ | ⟨_, _, q, _⟩ | ⟨_, _, _, _, _, _, e1⟩ | ⟨_, _, _, q, _⟩
        · omega
        · exact absurd HL.out q
        · exact ⟨by omega, by omega⟩
        · omega
    obtain ⟨h1, h2⟩ := HO.out
    subst h1
    have hd : (er != 0) = true := by simpa using h2
    clear hO HO HB HP h2
    go_wp2
    go_ret2
    exact ⟨rfl, grown_trans hG1 hg2 (by simp)⟩
  · obtain ⟨h1, h2⟩ : pe = c ∧ c ≠ 0 := by
      rcases HP.out with ⟨_, _, h3⟩ | ⟨h1, _⟩
      · rcases HB.out with ⟨_, h4⟩ | ⟨h1, _⟩ | ⟨h1, _⟩
        · exact ⟨by rw [h3, h4], by rw [h4]; exact hr⟩
        · exact absurd h1 hr
        · exact absurd h1 hr
      · exact absurd h1 hr
    subst h1
    have hd : (pe != 0) = true := by simpa using h2
    clear HB HP h2 hr
    go_wp2
    go_ret2
    exact ⟨rfl, hG1⟩
end Go.Proofs.Ytkcgpjmjaedlbaa
