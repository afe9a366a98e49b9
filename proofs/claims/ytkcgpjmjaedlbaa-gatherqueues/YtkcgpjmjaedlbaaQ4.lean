/-
  The queue of calls: what it holds.
-/
import Derived.Test.YtkcgpjmjaedlbaaQ3
namespace Go.Proofs.Ytkcgpjmjaedlbaa
open Go.RowKit
set_option linter.unusedVariables false
namespace Rq

theorem getElem?_splc (L cs : List Cl) (off p : Nat) (h : off + cs.length ≤ L.length) : (splc L off cs)[p]? = if off ≤ p ∧ p < off + cs.length then cs[p - off]? else L[p]? := by
  unfold splc
  rw [List.append_assoc]
  have h1 : min off L.length = off := by omega
  by_cases ha : p < off
  · rw [List.getElem?_append_left (by simp; omega), if_neg (by omega), List.getElem?_take_of_lt ha]
  · rw [List.getElem?_append_right (by simp; omega), List.length_take, h1]
    by_cases hb : p < off + cs.length
    · rw [List.getElem?_append_left (by omega), if_pos (by omega)]
    · rw [List.getElem?_append_right (by omega), if_neg (by omega), List.getElem?_drop]
      congr 1
      omega

/-- Going round. -/
theorem round_eq {f i n : Nat} (hf : f < n) (hi : i ≤ n) : (f + i) % n = if f + i < n then f + i else f + i - n := by
  split
  · rename_i h; exact Nat.mod_eq_of_lt h
  · rename_i h
    rw [Nat.mod_eq_sub_mod (by omega), Nat.mod_eq_of_lt (by omega)]

/-- The room 'cur' holds the queue l from place f on. -/
structure Rm (cur : List Cl) (bnd f : Nat) (l : List Cl) : Prop where
  size : cur.length = bnd
  pos : 0 < bnd
  fst : f < bnd
  len : l.length ≤ bnd
  item : ∀ i, i < l.length → cur[(f + i) % bnd]? = l[i]?

theorem Rm.put {cur l k : List Cl} {bnd f : Nat} (h : Rm cur bnd f l) (hk : l.length + k.length ≤ bnd) (p a : Nat) (hp : p = (f + l.length) % bnd) (ha : a = min k.length (bnd - p)) :
    Rm (splc (splc cur p (k.take a)) 0 (k.drop a)) bnd f (l ++ k) := by
  obtain ⟨h1, h2, h3, h4, h5⟩ := h
  rw [round_eq h3 h4] at hp
  have la : (k.take a).length = a := by simp; omega
  have ld : (k.drop a).length = k.length - a := by simp
  have hpl : p < bnd := by split at hp <;> omega
  have l1 : (splc cur p (k.take a)).length = bnd := by rw [splc_len _ _ _ (by omega)]; exact h1
  refine ⟨by rw [splc_len _ _ _ (by omega)]; exact l1, h2, h3, by simpa using hk, fun i hi => ?_⟩
  have hi' : i < l.length + k.length := by simpa using hi
  rw [round_eq h3 (by omega), getElem?_splc _ _ _ _ (by omega), getElem?_splc _ _ _ _ (by omega), la, ld]
  by_cases hil : i < l.length
  · have h6 := h5 i hil
    rw [round_eq h3 (by omega)] at h6
    rw [List.getElem?_append_left hil, ← h6]
    split at hp <;> split <;> (rw [if_neg (by omega), if_neg (by omega)])
  · rw [List.getElem?_append_right (by omega)]
    by_cases hia : i - l.length < a
    · have : k[i - l.length]? = (k.take a)[i - l.length]? := by rw [List.getElem?_take_of_lt hia]
      rw [this]
      split at hp <;> split <;> first | omega | (rw [if_neg (by omega), if_pos (by omega)]; congr 1; omega)
    · split at hp <;> split <;> first | omega | (rw [if_pos (by omega), List.getElem?_drop]; congr 1; omega)

theorem Rm.begin {cur l : List Cl} {bnd f : Nat} (h : Rm cur bnd f l) (n a : Nat) (hn : n ≤ l.length) (ha : a = min n (bnd - f)) :
    (cur.drop f).take a ++ cur.take (n - a) = l.take n := by
  obtain ⟨h1, h2, h3, h4, h5⟩ := h
  apply List.ext_getElem?
  intro i
  have la : ((cur.drop f).take a).length = a := by simp; omega
  by_cases hi : i < n
  · rw [List.getElem?_take_of_lt hi, ← h5 i (by omega), round_eq h3 (by omega)]
    by_cases hia : i < a
    · rw [List.getElem?_append_left (by omega), List.getElem?_take_of_lt hia, List.getElem?_drop, if_pos (by omega)]
    · rw [List.getElem?_append_right (by omega), la, List.getElem?_take_of_lt (by omega), if_neg (by omega)]
      congr 1
      omega
  · rw [List.getElem?_eq_none (by simp; omega), List.getElem?_eq_none (by simp; omega)]

theorem Rm.leave {cur l : List Cl} {bnd f : Nat} (h : Rm cur bnd f l) (n a : Nat) (z : Cl) (hn : n ≤ l.length) (ha : a = min n (bnd - f)) :
    Rm (splc (splc cur f (List.replicate a z)) 0 (List.replicate (n - a) z)) bnd ((f + n) % bnd) (l.drop n) := by
  obtain ⟨h1, h2, h3, h4, h5⟩ := h
  have l1 : (splc cur f (List.replicate a z)).length = bnd := by rw [splc_len _ _ _ (by simp; omega)]; exact h1
  have hm : (f + n) % bnd < bnd := Nat.mod_lt _ h2
  refine ⟨by rw [splc_len _ _ _ (by simp; omega)]; exact l1, h2, hm, by simp; omega, fun i hi => ?_⟩
  have hi' : i < l.length - n := by simpa using hi
  have h6 := h5 (n + i) (by omega)
  rw [List.getElem?_drop, ← h6, getElem?_splc _ _ _ _ (by simp; omega), getElem?_splc _ _ _ _ (by simp; omega), List.length_replicate, List.length_replicate]
  have e1 : ((f + n) % bnd + i) % bnd = (f + (n + i)) % bnd := by rw [Nat.mod_add_mod, Nat.add_assoc]
  rw [e1, round_eq h3 (by omega)]
  split <;> rw [if_neg (by omega), if_neg (by omega)]

/-- A queue in block b, its room in block g: it holds l. -/
structure Rg (w : World) (b g bnd f : Nat) (l : List Cl) : Prop where
  c0 : w.cell? ⟨b, 0, none⟩ = some (.slice (some ⟨g, 0, none⟩) bnd bnd)
  c1 : w.cell? ⟨b, 1, none⟩ = some (.int .i64 f)
  c2 : w.cell? ⟨b, 2, none⟩ = some (.int .i64 l.length)
  fz : ∀ i, w.frozen? ⟨b, i, none⟩ = false
  row : ∃ cur, Ro5 w g cur ∧ Rm cur bnd f l
  top : bnd ≤ 256
  ne : b ≠ g

theorem Rg.lt {w : World} {b g bnd f : Nat} {l : List Cl} (h : Rg w b g bnd f l) : b < w.heap.size := World.block_lt_of_cell? w _ h.c0
theorem Rg.glt {w : World} {b g bnd f : Nat} {l : List Cl} (h : Rg w b g bnd f l) : g < w.heap.size := by obtain ⟨cur, h1, _⟩ := h.row; exact h1.lt
theorem Rg.pos {w : World} {b g bnd f : Nat} {l : List Cl} (h : Rg w b g bnd f l) : 0 < bnd := by obtain ⟨cur, _, h1⟩ := h.row; exact h1.pos
theorem Rg.fst {w : World} {b g bnd f : Nat} {l : List Cl} (h : Rg w b g bnd f l) : f < bnd := by obtain ⟨cur, _, h1⟩ := h.row; exact h1.fst
theorem Rg.len {w : World} {b g bnd f : Nat} {l : List Cl} (h : Rg w b g bnd f l) : l.length ≤ bnd := by obtain ⟨cur, _, h1⟩ := h.row; exact h1.len

theorem Rg.chg {w w' : World} {b g bnd f : Nat} {l : List Cl} {S : Nat → Prop} (h : Rg w b g bnd f l) (hc : Chg w w' S) (hb : ¬ S b) (hg : ¬ S g) : Rg w' b g bnd f l := by
  have hblk := hc.block b h.lt hb
  obtain ⟨cur, h1, h2⟩ := h.row
  exact ⟨hc.cell h.c0 hb, hc.cell h.c1 hb, hc.cell h.c2 hb, fun i => by rw [World.frozen?_of_block (w := w) hblk]; exact h.fz i, ⟨cur, h1.chg hc hg, h2⟩, h.top, h.ne⟩
theorem Rg.grown {w w' : World} {b g bnd f : Nat} {l : List Cl} (h : Rg w b g bnd f l) (hg : w.grownBy w' none) : Rg w' b g bnd f l := h.chg (Chg.of_grown hg (fun _ => False)) (fun e => e) (fun e => e)

/-- The two blocks of a queue. -/
def two (b g k : Nat) : Prop := k = b ∨ k = g

theorem Rg.hd {w : World} {b g bnd f : Nat} {l : List Cl} (h : Rg w b g bnd f l) : Hd w b g bnd f l.length := ⟨h.c0, h.c1, h.c2, h.fz⟩
end Rq
end Go.Proofs.Ytkcgpjmjaedlbaa
