/-
  Take: the calls with copies of their records.
-/
import Derived.Test.YtkcgpjmjaedlbaaR2
import Derived.Deep.AppendLies
namespace Go.Proofs.Ytkcgpjmjaedlbaa
open Go.RowKit
set_option linter.unusedVariables false
section
variable (w : World)
/-- 'append(s, x...)' of records, and where it lies. -/
theorem wpList_append_recs2 {ops : Array Oper} {rest : List Oper} {o : Oper} {a : Act} {Q : Exit → Act → World → Prop} (hgd : o.guard = none) (s x : Operand)
    (ho : o.op = .call { callee := .builtin .append, args := #[s, x], argTypes := #[32, 32] })
    (base : Nat) {ao : Option Addr} {n cap : Nat} {l : List Rc} (hs : a.eval s = .slice ao n cap) (hown : Rw w base ao n cap l)
    {ad : Addr} {m c : Nat} {k : List Rc} (hx : a.eval x = .slice (some ad) m c) (hb : Rs w (some ad) m c k) (hm : 0 < m)
    (hsum : n + m ≤ 100000) (hbase : base ≤ w.heap.size)
    (h : ∀ g cap' w', Rw w' base (some ⟨g, 0, none⟩) (n + m) cap' (l ++ k) → w.grownBy w' (blk ao) → (blk ao = some g ∨ g = w.heap.size) → g < w'.heap.size → wpList Try.prog ops Q rest (a.put o.dst (.slice (some ⟨g, 0, none⟩) (n + m) cap')) w') : wpList Try.prog ops Q (o :: rest) a w := by
  obtain ⟨i, hi, hz, hzs, hz2⟩ := info_parts Try.info81
  have hlen := hb.len
  have hsrc : ∀ j v, (rcells k)[j]? = some v → w.cell? (ad.add j) = some v := by
    obtain ⟨b, o, e, hbl⟩ := hb.addr (by omega)
    obtain rfl := Option.some.inj e
    exact hb.src
  refine wpList_append_lies w hgd s x 32 ho base 81 i _ 3 56 Try.underlying32 hi hz hzs hz2 rfl (by decide) _ n _ hs hown.row ad m c (rcells k) hx (by rw [rcells_len, hlen]) hsrc (rcells_one k) hm (by unfold maxLen; omega) (by omega) hbase _ rfl ?_
  intro g cap' w' h1 h2 h3 h4
  rw [← rcells_append] at h1
  rw [blk_own] at h2 h3
  exact h g cap' w' ⟨by simp [hown.len, hlen], h1⟩ h2 h3 h4
end
/-- A list of one call turned. -/
def Cl.turn (c : Cl) (y : Rl) : Cl := ⟨c.k, c.p, y, c.b, c.i⟩
theorem ccells_turn {l : List Cl} {j : Nat} {c : Cl} (h : l[j]? = some c) (y : Rl) : (ccells l).set (j * 5 + 2) (.slice y.o y.n y.c) = ccells (l.set j (c.turn y)) := by
  obtain ⟨hj, e⟩ := List.getElem?_eq_some_iff.1 h
  apply List.ext_getElem?
  intro q
  by_cases hq : q < l.length * 5
  · have hq5 : q / 5 < l.length := by omega
    have e1 : q / 5 * 5 + q % 5 = q := by omega
    have hm : q % 5 < 5 := Nat.mod_lt _ (by decide)
    by_cases hqj : q / 5 = j
    · have h2 : (l.set j (c.turn y))[q / 5]? = some (c.turn y) := by rw [hqj, List.getElem?_set_self hj]
      have h3 := ccells_get h2 (q % 5) hm
      rw [e1] at h3
      have h4 := ccells_get (l := l) (j := j) h (q % 5) hm
      have e2 : j * 5 + q % 5 = q := by rw [← hqj]; exact e1
      rw [e2] at h4
      by_cases h5 : q % 5 = 2
      · rw [h3, h5]
        rw [show j * 5 + 2 = q by omega, List.getElem?_set_self (by rw [ccells_len]; omega)]
        rfl
      · rw [List.getElem?_set_ne (by omega), h4, h3]
        have h6 : q % 5 = 0 ∨ q % 5 = 1 ∨ q % 5 = 3 ∨ q % 5 = 4 := by omega
        rcases h6 with h6 | h6 | h6 | h6 <;> rw [h6] <;> rfl
    · have h1 := List.getElem?_eq_getElem hq5
      have h2 : (l.set j (c.turn y))[q / 5]? = some l[q / 5] := by rw [List.getElem?_set_ne (Ne.symm hqj)]; exact h1
      have h3 := ccells_get h1 (q % 5) hm
      have h4 := ccells_get h2 (q % 5) hm
      rw [e1] at h3 h4
      rw [List.getElem?_set_ne (by omega), h3, h4]
  · rw [List.getElem?_eq_none (by rw [List.length_set, ccells_len]; omega), List.getElem?_eq_none (by rw [ccells_len, List.length_set]; omega)]
theorem Ro5.turn {w : World} {g : Nat} {l : List Cl} (h : Ro5 w g l) {j : Nat} {c : Cl} (hc : l[j]? = some c) (y : Rl) : Ro5 (w.setCell ⟨g, j * 5 + 2, none⟩ (.slice y.o y.n y.c)) g (l.set j (c.turn y)) ∧ Chg w (w.setCell ⟨g, j * 5 + 2, none⟩ (.slice y.o y.n y.c)) (fun k => k = g) := by
  refine ⟨?_, setCell_chg w g _ _⟩
  unfold Ro5
  rw [heap_set5 h, ← ccells_turn hc y]
  congr 2
  apply Array.ext_getElem?
  intro q
  simp [List.getElem?_set]
/-- What is asked of a queue: the error. -/
def lookC (take : Int) (l : List Cl) : Int := if allP l = true then refR take (ys l) else 2
theorem lookC_ok {take : Int} {l : List Cl} (h : lookC take l = 0) : allP l = true ∧ refR take (ys l) = 0 := by
  unfold lookC at h
  split at h
  · rename_i h1; exact ⟨h1, h⟩
  · omega
def LookF (take : Int) (l : List Cl) (cn : Nat) (ce : Int) : Prop := (lookC take l ≠ 0 ∧ cn = 0 ∧ ce = lookC take l) ∨ (lookC take l = 0 ∧ ce = 0 ∧ Tk take (ys l) cn)
namespace Rq
set_option maxRecDepth 100000 in
set_option maxHeartbeats 4000000 in
theorem look_any (w : World) (take : Int) (b g bnd f : Nat) (l : List Cl) (h : Rg w b g bnd f l) (hr : ∀ c ∈ l, Rs w c.y.o c.y.n c.y.c c.y.l) (hs : ∀ c ∈ l, c.y.n ≤ 4096) :
    Calls Try.prog 28 #[.pointer (some ⟨b, 0, none⟩), .int .i64 take] w fun e w' => (∃ (cn : Nat) (ce : Int), e = .returned (.tuple #[.int .i64 cn, .int .i64 ce]) ∧ LookF take l cn ce) ∧ w.grownBy w' none := by
  have hlen := h.len
  have htop := h.top
  go_enter Try.func28, Try.ntmps28
  go_wp2_with fail
  refine (queued_any _ b g bnd f l h).mono ?_
  rintro e w1 ⟨hq, hg1⟩
  rcases hq with ⟨hp, rfl⟩ | ⟨hp, o, rfl, hv⟩
  · go_wp2
    go_ret2
    have hL : lookC take l = 2 := by unfold lookC; rw [hp]; rfl
    exact ⟨⟨0, 2, rfl, Or.inl ⟨by rw [hL]; decide, rfl, hL.symm⟩⟩, hg1⟩
  · have hls : Ls w1 (some ⟨o, 0, none⟩) l.length l.length (ys l) := ⟨hv, Or.inr ⟨_, _, rfl⟩, fun x hx => by
      obtain ⟨c, hc, rfl⟩ := List.mem_map.1 hx
      exact (hr c hc).grown hg1⟩
    have hc := count_all w1 take (some ⟨o, 0, none⟩) l.length l.length (ys l) hls (fun x hx => by obtain ⟨c, hc, rfl⟩ := List.mem_map.1 hx; exact hs c hc) (by omega)
    clear hls hv
    go_wp2_with fail
    refine hc.mono ?_
    rintro e w2 ⟨⟨cn, ce, rfl, hF⟩, hg2⟩
    have hF2 : LookF take l cn ce := by
      have hL : lookC take l = refR take (ys l) := by unfold lookC; rw [hp]; rfl
      unfold LookF
      rw [hL]
      exact hF
    have hG := grown_trans hg1 hg2 (by simp)
    clear hF
    go_wp2
    go_ret2
    exact ⟨⟨cn, ce, rfl, hF2⟩, hG⟩
set_option maxRecDepth 100000 in
set_option maxHeartbeats 4000000 in
theorem take_no (w : World) (take : Int) (b g bnd f : Nat) (l : List Cl) (h : Rg w b g bnd f l) (hr : ∀ c ∈ l, Rs w c.y.o c.y.n c.y.c c.y.l) (hs : ∀ c ∈ l, c.y.n ≤ 4096) (hno : lookC take l ≠ 0) :
    Calls Try.prog 30 #[.pointer (some ⟨b, 0, none⟩), .int .i64 take] w fun e w' => e = .returned (.tuple #[.slice none 0 0, .slice none 0 0, .int .i64 (lookC take l)]) ∧ w.grownBy w' none := by
  go_enter Try.func30, Try.ntmps30
  go_wp2_with fail
  refine (look_any _ take b g bnd f l h hr hs).mono ?_
  rintro e w1 ⟨⟨cn, ce, rfl, hF⟩, hg1⟩
  obtain ⟨_, rfl, rfl⟩ : lookC take l ≠ 0 ∧ cn = 0 ∧ ce = lookC take l := by
    rcases hF with h | h
    · exact h
    · exact absurd h.1 hno
  clear hF
  generalize hC : lookC take l = C at *
  have HC : Hid (lookC take l = C) := hC
  clear hC
  have hd : (C != 0) = true := by simpa using hno
  go_wp2
  go_returns
  rw [HC.out]
  exact ⟨rfl, hg1⟩
end Rq
end Go.Proofs.Ytkcgpjmjaedlbaa
