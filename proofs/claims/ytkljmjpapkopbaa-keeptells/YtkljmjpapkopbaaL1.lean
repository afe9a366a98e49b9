/-
  Rows of pieces: what the call owns, append; pieces compared.
-/
import Derived.Test.YtkljmjpapkopbaaM2
import Derived.Laws.AppendOwnNone
namespace Go.Proofs.Ytkljmjpapkopbaa
open Go.RowKit
set_option linter.unusedVariables false

def Pc.cells (p : Pc) : List Value := [.int .i64 p.b, .int .i64 p.n, .int .i64 p.t]
def pcells (l : List Pc) : List Value := (l.map Pc.cells).flatten
theorem pcells_len (l : List Pc) : (pcells l).length = l.length * 3 := by
  unfold pcells
  induction l with
  | nil => rfl
  | cons q t ih =>
    simp only [List.map_cons, List.flatten_cons, List.length_append, List.length_cons]
    rw [ih]
    simp [Pc.cells]
    omega
theorem pcells_get {l : List Pc} {j : Nat} {r : Pc} (h : l[j]? = some r) (i : Nat) (hi : i < 3) : (pcells l)[j * 3 + i]? = r.cells[i]? := by
  induction l generalizing j with
  | nil => simp at h
  | cons q t ih =>
    have hc : pcells (q :: t) = q.cells ++ pcells t := by simp [pcells]
    have hq : q.cells.length = 3 := rfl
    rw [hc]
    cases j with
    | zero =>
      simp at h
      subst h
      rw [List.getElem?_append_left (by omega)]
      simp
    | succ j =>
      have h2 := ih (j := j) (by simpa using h)
      rw [List.getElem?_append_right (by omega), hq, show (j + 1) * 3 + i - 3 = j * 3 + i by omega]
      exact h2
theorem pcells_one (l : List Pc) : ∀ u ∈ pcells l, u.oneCell' = true := by
  intro u hu
  unfold pcells at hu
  obtain ⟨l, hl, hm⟩ := List.mem_flatten.1 hu
  obtain ⟨r, _, rfl⟩ := List.mem_map.1 hl
  simp [Pc.cells] at hm
  rcases hm with rfl | rfl | rfl <;> rfl
theorem pcells_append (l k : List Pc) : pcells (l ++ k) = pcells l ++ pcells k := by simp [pcells]
/-- A row of pieces, which the call owns. -/
structure Pw (w : World) (base : Nat) (ao : Option Addr) (n cap : Nat) (l : List Pc) : Prop where
  len : l.length = n
  row : w.ownsRow base 29 3 (.slice ao n cap) n (pcells l)
theorem Pw.empty (w : World) : Pw (w.alloc (.cells #[] 29)) w.heap.size (some ⟨w.heap.size, 0, none⟩) 0 0 [] :=
  ⟨rfl, by
    have := heap_alloc_new w (.cells #[] 29)
    refine ⟨by simp [pcells], Or.inr ⟨w.heap.size, 0, #[], rfl, ?_⟩⟩
    refine ⟨Nat.le_refl _, this, ?_⟩
    simp [pcells, maxLen]⟩
theorem Pw.room {w : World} {base : Nat} {ao : Option Addr} {n cap : Nat} {l : List Pc} (h : Pw w base ao n cap l) : n ≤ cap := by
  rcases h.row.2 with ⟨hv, h0⟩ | ⟨g, c, cur, hv, hb, hg, hnc, _⟩
  · cases hv; omega
  · cases hv; exact hnc
theorem Pw.addr {w : World} {base : Nat} {ao : Option Addr} {n cap : Nat} {l : List Pc} (h : Pw w base ao n cap l) (hn : 0 < n) : ∃ g, ao = some ⟨g, 0, none⟩ ∧ base ≤ g ∧ g < w.heap.size := by
  rcases h.row.2 with ⟨hv, h0⟩ | ⟨g, c, cur, hv, hb, hg, _⟩
  · omega
  · cases hv
    exact ⟨g, rfl, hb, (Array.getElem?_eq_some_iff.1 hg).1⟩
theorem Pw.at {w : World} {base g n cap : Nat} {l : List Pc} (h : Pw w base (some ⟨g, 0, none⟩) n cap l) {j : Nat} {r : Pc} (hr : l[j]? = some r) (i : Nat) (hi : i < 3) : w.cell? ⟨g, j * 3 + i, none⟩ = r.cells[i]? := by
  have h1 := pcells_get hr i hi
  obtain ⟨u, hu⟩ : ∃ u, r.cells[i]? = some u := ⟨_, List.getElem?_eq_getElem (show i < r.cells.length from hi)⟩
  rw [hu] at h1 ⊢
  have h9 := h.row.cells (g := g) rfl _ _ h1
  rwa [Addr.add_lit, Nat.zero_add] at h9
theorem Pw.shows {w : World} {base g n cap : Nat} {l : List Pc} (h : Pw w base (some ⟨g, 0, none⟩) n cap l) (m : Nat) (hm : m ≤ n) : Ps w (some ⟨g, 0, none⟩) m (l.take m) :=
  ⟨by have := h.len; simp; omega, fun _ => ⟨g, 0, rfl, fun j p hp => by
    have hp2 : l[j]? = some p := by
      rw [List.getElem?_take] at hp
      split at hp
      · exact hp
      · cases hp
    rw [Nat.zero_add]
    exact ⟨h.at hp2 0 (by decide), h.at hp2 1 (by decide), h.at hp2 2 (by decide)⟩⟩⟩
theorem Ps.src {w : World} {b o n : Nat} {l : List Pc} (h : Ps w (some ⟨b, o, none⟩) n l) : ∀ j v, (pcells l)[j]? = some v → w.cell? ((⟨b, o, none⟩ : Addr).add j) = some v := by
  intro j v hv
  rw [Addr.add_lit]
  have hjl : j < l.length * 3 := by rw [← pcells_len]; exact (List.getElem?_eq_some_iff.1 hv).1
  have hq : j / 3 < l.length := by omega
  have hlen := h.len
  obtain ⟨g, o2, e, hc⟩ := h.pl (by omega)
  cases e
  obtain ⟨c1, c2, c3⟩ := hc (j / 3) l[j / 3] (List.getElem?_eq_getElem hq)
  have hg := fun i hi => pcells_get (List.getElem?_eq_getElem hq) i hi
  have hm : j % 3 = 0 ∨ j % 3 = 1 ∨ j % 3 = 2 := by omega
  rcases hm with hm | hm | hm
  · have h1 := hg 0 (by decide)
    have e : j / 3 * 3 + 0 = j := by omega
    rw [e, hv] at h1
    rw [show o + j = o + j / 3 * 3 by omega, c1]
    exact h1.symm
  · have h1 := hg 1 (by decide)
    have e : j / 3 * 3 + 1 = j := by omega
    rw [e, hv] at h1
    rw [show o + j = o + j / 3 * 3 + 1 by omega, c2]
    exact h1.symm
  · have h1 := hg 2 (by decide)
    have e : j / 3 * 3 + 2 = j := by omega
    rw [e, hv] at h1
    rw [show o + j = o + j / 3 * 3 + 2 by omega, c3]
    exact h1.symm
theorem info29' : (Try.prog.info? 29).map (fun i => (i.zero, i.size, i.bytes)) = some (some (.agg #[.int .i64 0, .int .i64 0, .int .i64 0]), 3, 24) := by kernel_rfl

section
variable (w : World)
/-- 'append(s, x...)' of pieces, s the call's own, x whatever. -/
theorem wpList_append_pcs {ops : Array Oper} {rest : List Oper} {o : Oper} {a : Act} {Q : Exit → Act → World → Prop} (hgd : o.guard = none) (s x : Operand)
    (ho : o.op = .call { callee := .builtin .append, args := #[s, x], argTypes := #[24, 24] })
    (base : Nat) {ao : Option Addr} {n cap : Nat} {l : List Pc} (hs : a.eval s = .slice ao n cap) (hown : Pw w base ao n cap l)
    {xo : Option Addr} {m c : Nat} {k : List Pc} (hx : a.eval x = .slice xo m c) (hb : Ps w xo m k) (hnil : xo = none → m = 0 ∧ c = 0)
    (hsum : n + m ≤ 100000) (hbase : base ≤ w.heap.size)
    (h : ∀ ao' cap' w', Pw w' base ao' (n + m) cap' (l ++ k) → w.grownBy w' (blk ao) → wpList Try.prog ops Q rest (a.put o.dst (.slice ao' (n + m) cap')) w') : wpList Try.prog ops Q (o :: rest) a w := by
  obtain ⟨i, hi, hz, hzs, hz2⟩ := info_parts info29'
  have hlen := hb.len
  cases xo with
  | none =>
    obtain ⟨rfl, rfl⟩ := hnil rfl
    obtain rfl : k = [] := List.eq_nil_of_length_eq_zero hb.len
    refine wpList_append_own_none hgd s x 24 ho base 29 i 3 Try.underlying24 hi _ n _ hs hown.row hx ?_
    have := h ao cap w (by simpa using hown) (grown_refl _ _)
    simpa using this
  | some ad =>
    have hsrc : ∀ j v, (pcells k)[j]? = some v → w.cell? (ad.add j) = some v := by
      by_cases h0 : m = 0
      · subst h0
        obtain rfl : k = [] := List.eq_nil_of_length_eq_zero hlen
        intro j v hv
        simp [pcells] at hv
      · obtain ⟨b, o, e, hbl⟩ := hb.pl (by omega)
        obtain rfl := Option.some.inj e
        exact hb.src
    refine wpList_append_own w hgd s x 24 ho base 29 i _ 3 24 Try.underlying24 hi hz hzs hz2 rfl (by decide) _ n _ hs hown.row ad m c (pcells k) hx (by rw [pcells_len, hlen]) hsrc (pcells_one k) (by unfold maxLen; omega) (by omega) hbase ?_
    intro v' w' hown' hgrow hnil
    rw [← pcells_append] at hown'
    have hll : (l ++ k).length = n + m := by simp [hown.len, hlen]
    rcases hown'.2 with ⟨hv, h0⟩ | ⟨g, c', cur, hv, _⟩
    · subst hv
      have := h none 0 w' ⟨hll, by rw [h0] at hown' ⊢; exact hown'⟩ (by rw [blk_own] at hgrow; exact hgrow)
      rw [h0] at this
      exact this
    · subst hv
      exact h _ _ w' ⟨hll, hown'⟩ (by rw [blk_own] at hgrow; exact hgrow)
end

theorem eqIn29 (W : World) (a b c d e f : Int) : (Op.equalIn 10000 29 (.agg #[.int .i64 a, .int .i64 b, .int .i64 c]) (.agg #[.int .i64 d, .int .i64 e, .int .i64 f])).run Try.prog W = .ok (decide (a = d) && (decide (b = e) && decide (c = f))) W := by
  have u2 := Try.underlying2
  rw [show (10000 : Nat) = 9999 + 1 from rfl, Op.equalIn]
  simp only [Sem.run_bind, run_underlying Try.underlying29, Result.andThen_ok]
  go_simp
  by_cases h1 : a = d
  · by_cases h2 : b = e
    · by_cases h3 : c = f <;> simp [h1, h2, h3]
    · simp [h1, h2]
  · simp [h1]
theorem ne29 (W : World) (a b c d e f : Int) : (binOp .neq 29 (.agg #[.int .i64 a, .int .i64 b, .int .i64 c]) (.agg #[.int .i64 d, .int .i64 e, .int .i64 f])).run Try.prog W = .ok (.bool (!(decide (a = d) && (decide (b = e) && decide (c = f))))) W := by
  simp only [binOp]
  simp [show (Op.equal 29 (.agg #[.int .i64 a, .int .i64 b, .int .i64 c]) (.agg #[.int .i64 d, .int .i64 e, .int .i64 f])).run Try.prog W = _ from eqIn29 W a b c d e f]
theorem ne29_same (W : World) (a b c : Int) : (binOp .neq 29 (.agg #[.int .i64 a, .int .i64 b, .int .i64 c]) (.agg #[.int .i64 a, .int .i64 b, .int .i64 c])).run Try.prog W = .ok (.bool false) W := by
  rw [ne29]; simp
end Go.Proofs.Ytkljmjpapkopbaa
