/-
  Lists of lists of records, how many of them go into one batch, and plans. Nothing here speaks of the program.
-/
import Derived.Test.YtkcgpjmjaedlbaaV
namespace Go.Proofs.Ytkcgpjmjaedlbaa
open Go.RowKit
set_option linter.unusedVariables false

/-- What a record is: time, key, value. -/
abbrev Dr := Int × List UInt8 × List UInt8

/-- A record as it lies: its time, the heads of key and value, and the bytes that these show. -/
structure Rc where
  t : Int
  ko : Option Addr
  kn : Nat
  kc : Nat
  k : List UInt8
  vo : Option Addr
  vn : Nat
  vc : Nat
  v : List UInt8

def Rc.d (r : Rc) : Dr := (r.t, r.k, r.v)
/-- What the records of a list are. -/
def ds (l : List Rc) : List Dr := l.map Rc.d
theorem ds_len (l : List Rc) : (ds l).length = l.length := by simp [ds]

/-- How many bytes the records of a list have. -/
def szs (l : List Rc) : Nat := (l.map fun r => 12 + r.kn + r.vn).sum
theorem szs_append (l k : List Rc) : szs (l ++ k) = szs l + szs k := by simp [szs]
theorem szs_snoc {l : List Rc} {i : Nat} (h : i < l.length) : szs (l.take (i + 1)) = szs (l.take i) + (12 + (l[i]).kn + (l[i]).vn) := by
  unfold szs
  rw [List.take_succ_eq_append_getElem h, List.map_append, List.sum_append]
  simp
theorem szs_take_le (l : List Rc) (i : Nat) : szs (l.take i) ≤ szs l := by
  have := szs_append (l.take i) (l.drop i)
  rw [List.take_append_drop] at this
  omega

/-- May the record be? -/
def mayB (t : Int) (kn vn : Nat) : Bool := decide (0 ≤ t) && (decide (t ≤ 9007199254740992) && (decide (kn ≤ 256) && decide (vn ≤ 4096)))
def mayR (r : Rc) : Bool := mayB r.t r.kn r.vn
/-- What Fits answers. -/
def fitsR (l : List Rc) : Nat × Int := if l.all mayR = false ∨ l = [] then (0, 2) else if 256 < l.length ∨ 65536 < 20 + szs l then (0, 8) else (20 + szs l, 0)

/-- A list of records, as its head lies. -/
structure Rl where
  o : Option Addr
  n : Nat
  c : Nat
  l : List Rc
/-- The records of lists, one behind the other. -/
def flat (L : List Rl) : List Rc := (L.map Rl.l).flatten
theorem flat_append (L M : List Rl) : flat (L ++ M) = flat L ++ flat M := by simp [flat]
theorem flat_one (x : Rl) : flat [x] = x.l := by simp [flat]
theorem flat_succ {L : List Rl} {n : Nat} (h : n < L.length) : flat (L.take (n + 1)) = flat (L.take n) ++ (L[n]).l := by
  rw [List.take_succ_eq_append_getElem h, flat_append, flat_one]

/-- Do they go into one batch? -/
def Fit (L : List Rl) : Prop := (flat L).length ≤ 256 ∧ 20 + szs (flat L) ≤ 65536
theorem Fit.part {L : List Rl} {m n : Nat} (h : Fit (L.take n)) (hm : m ≤ n) : Fit (L.take m) := by
  have e : L.take n = L.take m ++ (L.take n).drop m := by
    have := List.take_append_drop m (L.take n)
    rw [List.take_take, Nat.min_eq_left hm] at this
    exact this.symm
  unfold Fit at *
  rw [e, flat_append, szs_append, List.length_append] at h
  omega

/-- How many of the lists are taken. -/
structure Tk (take : Int) (L : List Rl) (n : Nat) : Prop where
  le : n ≤ L.length
  most : (n : Int) ≤ take
  pos : L ≠ [] → 1 ≤ n
  fit : Fit (L.take n)
  next : n < L.length → (n : Int) < take → ¬ Fit (L.take (n + 1))

theorem Tk.mono {a b : Int} {L : List Rl} {n m : Nat} (h : Tk a L n) (k : Tk b L m) (hab : a ≤ b) : n ≤ m := by
  apply Decidable.byContradiction
  intro hn
  have h1 := h.le
  have h2 := h.most
  exact k.next (by omega) (by omega) (h.fit.part (by omega))
theorem Tk.one {a : Int} {L : List Rl} {n m : Nat} (h : Tk a L n) (k : Tk a L m) : n = m :=
  Nat.le_antisymm (h.mono k (Int.le_refl _)) (k.mono h (Int.le_refl _))
/-- All go just if they go into one batch. -/
theorem Tk.all {L : List Rl} {n : Nat} (h : Tk (L.length : Int) L n) : n < L.length ↔ ¬ Fit L := by
  constructor
  · intro hn hf
    refine h.next hn (by omega) ?_
    have : Fit (L.take L.length) := by rw [List.take_length]; exact hf
    exact this.part (by omega)
  · intro hf
    apply Decidable.byContradiction
    intro hn
    have h1 := h.le
    have h2 : n = L.length := by omega
    have h3 := h.fit
    rw [h2, List.take_length] at h3
    exact hf h3

/-- What Plan says. -/
inductive Pn (take : Int) : List Rl → List Nat → Prop
  | nil : Pn take [] []
  | cons {L : List Rl} {n : Nat} {ps : List Nat} : L ≠ [] → Tk take L n → Pn take (L.drop n) ps → Pn take L (n :: ps)
theorem Pn.end {take : Int} {L : List Rl} (h : Pn take L []) : L = [] := by cases h; rfl
theorem Pn.head {take : Int} {L : List Rl} {n : Nat} {ps : List Nat} (h : Pn take L (n :: ps)) : L ≠ [] ∧ Tk take L n ∧ Pn take (L.drop n) ps := by
  cases h with
  | cons h1 h2 h3 => exact ⟨h1, h2, h3⟩
theorem Pn.none {take : Int} {ps : List Nat} (h : Pn take [] ps) : ps = [] := by
  cases h with
  | nil => rfl
  | cons h1 _ _ => exact absurd rfl h1
theorem Pn.one {take : Int} {L : List Rl} {ps : List Nat} (h : Pn take L ps) : ∀ {qs : List Nat}, Pn take L qs → ps = qs := by
  induction h with
  | nil => intro qs h; exact h.none.symm
  | cons h1 h2 h3 ih =>
    intro qs hq
    cases hq with
    | nil => exact absurd rfl h1
    | cons g1 g2 g3 =>
      obtain rfl := h2.one g2
      rw [ih g3]
theorem Pn.len {take : Int} {L : List Rl} {ps : List Nat} (h : Pn take L ps) : ps.length ≤ L.length := by
  induction h with
  | nil => simp
  | cons h1 h2 h3 ih =>
    have := h2.pos h1
    have := h2.le
    simp at ih ⊢
    omega

/-- The error of lists. -/
def lref (L : List Rl) : Int := if L.any (fun x => (fitsR x.l).2 == 2) then 2 else if 256 < L.length then 3 else if L.any (fun x => (fitsR x.l).2 == 8) then 8 else 0

theorem fitsR_code (l : List Rc) : (fitsR l).2 = 0 ∨ (fitsR l).2 = 2 ∨ (fitsR l).2 = 8 := by
  unfold fitsR
  split
  · simp
  · split <;> simp
theorem fitsR_ok {l : List Rc} (h : (fitsR l).2 = 0) : l.all mayR = true ∧ l ≠ [] ∧ l.length ≤ 256 ∧ 20 + szs l ≤ 65536 ∧ fitsR l = (20 + szs l, 0) := by
  unfold fitsR at *
  split at h
  · simp at h
  · rename_i h1
    split at h
    · simp at h
    · rename_i h2
      rw [if_neg h1, if_neg h2]
      refine ⟨?_, fun e => h1 (.inr e), by omega, by omega, rfl⟩
      cases hb : l.all mayR with
      | true => rfl
      | false => exact absurd (.inl hb) h1
theorem lref_ok {L : List Rl} (h : lref L = 0) : L.length ≤ 256 ∧ ∀ x ∈ L, (fitsR x.l).2 = 0 := by
  unfold lref at h
  split at h
  · simp at h
  · rename_i h1
    split at h
    · simp at h
    · rename_i h2
      split at h
      · simp at h
      · rename_i h3
        refine ⟨by omega, fun x hx => ?_⟩
        have k1 : ¬ (fitsR x.l).2 = 2 := fun e => h1 (List.any_eq_true.2 ⟨x, hx, by simp [e]⟩)
        have k3 : ¬ (fitsR x.l).2 = 8 := fun e => h3 (List.any_eq_true.2 ⟨x, hx, by simp [e]⟩)
        rcases fitsR_code x.l with e | e | e
        · exact e
        · exact absurd e k1
        · exact absurd e k3
theorem lref_of {L : List Rl} (h1 : L.length ≤ 256) (h2 : ∀ x ∈ L, (fitsR x.l).2 = 0) : lref L = 0 := by
  unfold lref
  rw [if_neg, if_neg (by omega), if_neg]
  · intro e
    obtain ⟨x, hx, hc⟩ := List.any_eq_true.1 e
    have := h2 x hx
    simp [this] at hc
  · intro e
    obtain ⟨x, hx, hc⟩ := List.any_eq_true.1 e
    have := h2 x hx
    simp [this] at hc
theorem lref_part {L : List Rl} (h : lref L = 0) (a b : Nat) : lref ((L.drop a).take b) = 0 := by
  obtain ⟨h1, h2⟩ := lref_ok h
  refine lref_of (by simp; omega) fun x hx => h2 x (List.mem_of_mem_drop (List.mem_of_mem_take hx))
end Go.Proofs.Ytkcgpjmjaedlbaa
