/-
  Lists of records that stay while some blocks are written; calls that say the same.
-/
import Derived.Test.YtkcgpjmjaedlbaaQ9
namespace Go.Proofs.Ytkcgpjmjaedlbaa
open Go.RowKit
set_option linter.unusedVariables false
theorem Chg.then {w w' w'' : World} {S T : Nat → Prop} (h : Chg w w' S) (h2 : Chg w' w'' T) (hT : ∀ k, k < w.heap.size → T k → S k) : Chg w w'' S :=
  ⟨h2.os.trans h.os, h2.tape.trans h.tape, h2.output.trans h.output, Nat.le_trans h.size h2.size, fun k hk hn => (h2.block k (Nat.lt_of_lt_of_le hk h.size) (fun e => hn (hT k hk e))).trans (h.block k hk hn)⟩
theorem Bs.chg {w w' : World} {ao : Option Addr} {n cap : Nat} {l : List UInt8} {S : Nat → Prop} (h : Bs w ao n cap l) (hc : Chg w w' S) (hn : ∀ a, ao = some a → 0 < n → ¬ S a.block) : Bs w' ao n cap l :=
  ⟨h.len, h.room, h.top, h.nil, fun a ha j u hu => hc.cell (h.cells a ha j u hu) (by
    rw [add_block]
    have := (List.getElem?_eq_some_iff.1 hu).1
    rw [List.length_map, h.len] at this
    exact hn a ha (by omega))⟩
theorem Rk.chg {w w' : World} {r : Rc} {S : Nat → Prop} (h : Rk w r) (hc : Chg w w' S) (hk : ∀ a, r.ko = some a → 0 < r.kn → ¬ S a.block) (hv : ∀ a, r.vo = some a → 0 < r.vn → ¬ S a.block) : Rk w' r :=
  ⟨h.low, h.high, h.key.chg hc hk, h.value.chg hc hv, h.kb, h.vb⟩
theorem Rs.chg {w w' : World} {ao : Option Addr} {n cap : Nat} {l : List Rc} {S : Nat → Prop} (h : Rs w ao n cap l) (hc : Chg w w' S) (hr : ∀ a, ao = some a → 0 < n → ¬ S a.block) (hk : ∀ r ∈ l, Rk w' r) : Rs w' ao n cap l :=
  ⟨h.len, h.room, h.top, h.nil, fun a ha hn => by obtain ⟨b, o, e, hb⟩ := h.place a ha hn; exact ⟨b, o, e, Nat.lt_of_lt_of_le hb hc.size⟩, fun b o ha j r hj => by
    have hn : 0 < n := by have := (List.getElem?_eq_some_iff.1 hj).1; rw [h.len] at this; omega
    obtain ⟨h1, h2, h3⟩ := h.cells b o ha j r hj
    have hs : ¬ S b := hr _ ha hn
    exact ⟨hc.cell h1 hs, hc.cell h2 hs, hc.cell h3 hs⟩, hk⟩
/-- A record that stays whatever is written into S. -/
def Ak (w : World) (S : Nat → Prop) (r : Rc) : Prop := ∀ w', Chg w w' S → Rk w' r
/-- A list of records that stays whatever is written into S. -/
def Aq (w : World) (S : Nat → Prop) (x : Rl) : Prop := ∀ w', Chg w w' S → Rs w' x.o x.n x.c x.l
theorem Aq.rs {w : World} {S : Nat → Prop} {x : Rl} (h : Aq w S x) : Rs w x.o x.n x.c x.l := h w (Chg.refl w S)
theorem Ak.rk {w : World} {S : Nat → Prop} {r : Rc} (h : Ak w S r) : Rk w r := h w (Chg.refl w S)
theorem Aq.step {w w' : World} {S T : Nat → Prop} {x : Rl} (h : Aq w S x) (hc : Chg w w' S) (hT : ∀ k, k < w.heap.size → T k → S k) : Aq w' T x := fun w'' h2 => h w'' (hc.then h2 hT)
theorem Ak.step {w w' : World} {S T : Nat → Prop} {r : Rc} (h : Ak w S r) (hc : Chg w w' S) (hT : ∀ k, k < w.heap.size → T k → S k) : Ak w' T r := fun w'' h2 => h w'' (hc.then h2 hT)
theorem Aq.chg {w w' : World} {S : Nat → Prop} {x : Rl} (h : Aq w S x) (hc : Chg w w' S) : Aq w' S x := h.step hc (fun _ _ e => e)
theorem Ak.chg {w w' : World} {S : Nat → Prop} {r : Rc} (h : Ak w S r) (hc : Chg w w' S) : Ak w' S r := h.step hc (fun _ _ e => e)
theorem Aq.grown {w w' : World} {S : Nat → Prop} {x : Rl} (h : Aq w S x) (hg : w.grownBy w' none) : Aq w' S x := h.chg (Chg.of_grown hg S)
theorem Ak.grown {w w' : World} {S : Nat → Prop} {r : Rc} (h : Ak w S r) (hg : w.grownBy w' none) : Ak w' S r := h.chg (Chg.of_grown hg S)
theorem Chg.of_row {w w' : World} {row : Option Nat} (h : w.grownBy w' row) {S : Nat → Prop} (hS : ∀ k, row = some k → S k) : Chg w w' S :=
  ⟨h.os, h.tape, h.output, h.size, fun k hk hn => h.block k hk (fun e => hn (hS k e.symm))⟩
/-- What lies there of old stays, if only new blocks are written. -/
theorem Aq.old {w0 w : World} {S : Nat → Prop} {x : Rl} (h : Rs w0 x.o x.n x.c x.l) (hg : w0.grownBy w none) (hS : ∀ k, S k → w0.heap.size ≤ k) : Aq w S x := fun w' hc =>
  h.grown ((Chg.then (Chg.of_grown hg S) hc (fun _ _ e => e)).grown (fun k hk e => by have := hS k e; omega))
/-- What Copy made stays. -/
theorem Aq.own {w : World} {base base2 : Nat} {ao : Option Addr} {n c : Nat} {rs : List Rc} {S : Nat → Prop} (h : Rw w base ao n c rs) (ho : ∀ r ∈ rs, Own w base2 r) (hb : base ≤ base2) (hS : ∀ k, S k → k < base ∨ w.heap.size ≤ k) : Aq w S ⟨ao, n, c, rs⟩ := fun w' hc => by
  refine (h.shows fun r hr => (ho r hr).rk).chg hc (fun a ha hn e => ?_) (fun r hr => (ho r hr).rk.chg hc (fun a ha hn e => ?_) (fun a ha hn e => ?_))
  · have := h.from_base a.block (by rw [ha]; rfl); have := hS _ e; omega
  · have := (ho r hr).kin a ha; have := hS _ e; omega
  · have := (ho r hr).vin a ha; have := hS _ e; omega
theorem Ak.own {w : World} {base : Nat} {r : Rc} {S : Nat → Prop} (ho : Own w base r) (hS : ∀ k, S k → k < base ∨ w.heap.size ≤ k) : Ak w S r := fun w' hc =>
  ho.rk.chg hc (fun a ha hn e => by have := ho.kin a ha; have := hS _ e; omega) (fun a ha hn e => by have := ho.vin a ha; have := hS _ e; omega)
/-- What the document's Copy made stays. -/
theorem Aq.away {w : World} {base : Nat} {ao : Option Addr} {row : Option Nat} {n c : Nat} {rs : List Rc} {S : Nat → Prop} (h : Rw w base ao n c rs) (ho : ∀ r ∈ rs, Aw w base row r) (hS : ∀ k, S k → k < base ∨ w.heap.size ≤ k) : Aq w S ⟨ao, n, c, rs⟩ := fun w' hc => by
  refine (h.shows fun r hr => (ho r hr).rk).chg hc (fun a ha hn e => ?_) (fun r hr => (ho r hr).rk.chg hc (fun a ha hn e => ?_) (fun a ha hn e => ?_))
  · have := h.from_base a.block (by rw [ha]; rfl); have := hS _ e; omega
  · have := (ho r hr).kin a ha; have := hS _ e; omega
  · have := (ho r hr).vin a ha; have := hS _ e; omega

/-- Two calls that say the same. -/
structure Cl.al (c d : Cl) : Prop where
  k : c.k = d.k
  p : c.p = d.p
  b : c.b = d.b
  i : c.i = d.i
  n : c.y.n = d.y.n
  ds : ds c.y.l = ds d.y.l
/-- The lists of calls. -/
def ys (l : List Cl) : List Rl := l.map Cl.y
theorem ys_len (l : List Cl) : (ys l).length = l.length := by simp [ys]
/-- Two lists of calls that say the same. -/
def Als (l m : List Cl) : Prop := l.length = m.length ∧ ∀ (j : Nat) c d, l[j]? = some c → m[j]? = some d → c.al d
theorem Als.ds {l m : List Cl} (h : Als l m) : (ys l).map Rl.d = (ys m).map Rl.d := by
  apply List.ext_getElem?
  intro j
  unfold ys
  rw [List.getElem?_map, List.getElem?_map, List.getElem?_map, List.getElem?_map]
  cases h1 : l[j]? with
  | none =>
    have : m[j]? = none := by rw [List.getElem?_eq_none_iff] at h1 ⊢; have := h.1; omega
    rw [this]
  | some c =>
    cases h2 : m[j]? with
    | none => rw [List.getElem?_eq_none_iff] at h2; have := (List.getElem?_eq_some_iff.1 h1).1; have := h.1; omega
    | some d =>
      have := h.2 j c d h1 h2
      simp [Rl.d, this.n, this.ds]
theorem Als.take {l m : List Cl} (h : Als l m) (n : Nat) : Als (l.take n) (m.take n) := ⟨by simp [h.1], fun j c d hc hd => by
  rw [List.getElem?_take] at hc hd
  split at hc
  · rename_i hj; rw [if_pos hj] at hd; exact h.2 j c d hc hd
  · cases hc⟩
theorem Als.drop {l m : List Cl} (h : Als l m) (n : Nat) : Als (l.drop n) (m.drop n) := ⟨by simp [h.1], fun j c d hc hd => by
  rw [List.getElem?_drop] at hc hd
  exact h.2 _ c d hc hd⟩
theorem Als.refl (l : List Cl) : Als l l := ⟨rfl, fun j c d hc hd => by rw [hc] at hd; cases hd; exact ⟨rfl, rfl, rfl, rfl, rfl, rfl⟩⟩
theorem Als.snoc {l m : List Cl} {c d : Cl} (h : Als l m) (hcd : c.al d) : Als (l ++ [c]) (m ++ [d]) := ⟨by simp [h.1], fun j x y hx hy => by
  have hl := h.1
  rw [List.getElem?_append] at hx hy
  by_cases hj : j < l.length
  · rw [if_pos hj] at hx; rw [if_pos (by omega)] at hy; exact h.2 j x y hx hy
  · rw [if_neg hj] at hx; rw [if_neg (by omega)] at hy
    have e : j - l.length = 0 := by
      by_cases e : j - l.length = 0
      · exact e
      · rw [List.getElem?_eq_none (by simp; omega)] at hx; cases hx
    have e2 : j - m.length = 0 := by omega
    rw [e] at hx; rw [e2] at hy
    cases hx; cases hy
    exact hcd⟩
theorem shl_rs {w v : World} {L M : List Rl} (hL : ∀ x ∈ L, Rs w x.o x.n x.c x.l) (hM : ∀ x ∈ M, Rs v x.o x.n x.c x.l) (h : M.map Rl.d = L.map Rl.d) : shl M = shl L := by
  have key : ∀ (W : World) (l : List Rc), (∀ r ∈ l, Rk W r) → l.map sh = (ds l).map fun d => (d.1, d.2.1.length, d.2.2.length) := by
    intro W l hl
    unfold ds
    rw [List.map_map]
    apply List.map_congr_left
    intro r hr
    have h1 := (hl r hr).key.len
    have h2 := (hl r hr).value.len
    simp [sh, Rc.d, h1, h2]
  apply List.ext_getElem?
  intro j
  have hj : (M.map Rl.d)[j]? = (L.map Rl.d)[j]? := by rw [h]
  rw [List.getElem?_map, List.getElem?_map] at hj
  unfold shl
  rw [List.getElem?_map, List.getElem?_map]
  cases h1 : M[j]? with
  | none => rw [h1] at hj; cases h2 : L[j]? with
    | none => rfl
    | some y => rw [h2] at hj; cases hj
  | some x => rw [h1] at hj; cases h2 : L[j]? with
    | none => rw [h2] at hj; cases hj
    | some y =>
      rw [h2] at hj
      simp only [Option.map_some, Option.some.injEq, Rl.d, Prod.mk.injEq] at hj ⊢
      rw [key v x.l fun r hr => (hM x (List.mem_of_getElem? h1)).shows r hr, key w y.l fun r hr => (hL y (List.mem_of_getElem? h2)).shows r hr, hj.2]
end Go.Proofs.Ytkcgpjmjaedlbaa
