/-
  A float's text: its odd number and its power, there and back; decimal digits read. Nothing here speaks of the program.
-/
import Derived.Lib.ItoaNum
import Derived.Lib.TrailingZeros
import Derived.Lib.BitFns
namespace Go.Proofs.YtmjcjcpifahpaaaDoor
open Go
set_option linter.unusedVariables false

/-! ### The odd number and the power -/

/-- The number ahead of the power, of a finite rung. -/
def fm (r : Nat) : Nat := if r < 4503599627370496 then r else 4503599627370496 + r % 4503599627370496
/-- The power, above the least one. -/
def fe (r : Nat) : Nat := r / 4503599627370496 - 1
def spM (r : Nat) : Nat := fm r / 2 ^ Lib.ctz 64 (fm r)
def spE (r : Nat) : Int := -1074 + (fe r + Lib.ctz 64 (fm r) : Nat)
def jsh (m : Nat) (e : Int) : Int := min (53 - (Lib.bitLen m : Int)) (e + 1074)
/-- The rung of an odd number and a power. -/
def jn (m : Nat) (e : Int) : Nat := m * 2 ^ (jsh m e).toNat + (e - jsh m e + 1074).toNat * 4503599627370496

theorem fm_lt (r : Nat) : fm r < 9007199254740992 := by unfold fm; split <;> omega
theorem fm_pos {r : Nat} (h : 0 < r) : 0 < fm r := by unfold fm; split <;> omega

theorem ctz_odd {n : Nat} (h0 : 0 < n) (h : n < 18446744073709551616) : ∃ j, n = 2 ^ Lib.ctz 64 n * (2 * j + 1) ∧ Lib.ctz 64 n < 64 := by
  obtain ⟨m, hm, hk⟩ := Lib.ctzFrom_spec 64 n h0 h
  have e : Lib.ctz 64 n = Lib.ctzFrom 64 n := by simp [Lib.ctz]; omega
  rw [e]
  exact ⟨m, hm, hk⟩
theorem odd_one {a b i j : Nat} (h : 2 ^ a * (2 * i + 1) = 2 ^ b * (2 * j + 1)) : a = b := by
  induction a generalizing b with
  | zero =>
    cases b with
    | zero => rfl
    | succ b => rw [Nat.pow_succ, Nat.mul_comm (2 ^ b) 2, Nat.mul_assoc] at h; omega
  | succ a ih =>
    cases b with
    | zero => rw [Nat.pow_succ, Nat.mul_comm (2 ^ a) 2, Nat.mul_assoc] at h; omega
    | succ b =>
      rw [Nat.pow_succ, Nat.mul_comm (2 ^ a) 2, Nat.mul_assoc, Nat.pow_succ, Nat.mul_comm (2 ^ b) 2, Nat.mul_assoc] at h
      rw [ih (b := b) (by omega)]
theorem ctz_of {m s : Nat} (hm : m % 2 = 1) (h : m * 2 ^ s < 18446744073709551616) : Lib.ctz 64 (m * 2 ^ s) = s := by
  have hp : 0 < m * 2 ^ s := Nat.mul_pos (by omega) (Nat.two_pow_pos _)
  obtain ⟨j, hj, _⟩ := ctz_odd hp h
  have hj' : 2 ^ s * (2 * (m / 2) + 1) = 2 ^ Lib.ctz 64 (m * 2 ^ s) * (2 * j + 1) := by
    rw [← hj, Nat.mul_comm]; congr 1; omega
  exact (odd_one hj').symm

theorem bl {m : Nat} (h0 : m ≠ 0) (h : m < 18446744073709551616) : 1 ≤ Lib.bitLen m ∧ 2 ^ (Lib.bitLen m - 1) ≤ m ∧ m < 2 ^ Lib.bitLen m := Lib.bitLenAux_bounds 64 m h h0

theorem spM_odd {r : Nat} (h : 0 < r) : spM r % 2 = 1 := by
  obtain ⟨j, hj, _⟩ := ctz_odd (fm_pos h) (by have := fm_lt r; omega)
  have : spM r = 2 * j + 1 := by
    unfold spM
    exact Nat.div_eq_of_eq_mul_right (Nat.two_pow_pos _) hj
  omega
theorem spM_mul {r : Nat} (h : 0 < r) : spM r * 2 ^ Lib.ctz 64 (fm r) = fm r := by
  obtain ⟨j, hj, _⟩ := ctz_odd (fm_pos h) (by have := fm_lt r; omega)
  unfold spM
  exact Nat.div_mul_cancel ⟨2 * j + 1, hj⟩
theorem spM_le {r : Nat} (h : 0 < r) : spM r ≤ fm r := Nat.div_le_self _ _
theorem spM_lt {r : Nat} (h : 0 < r) : spM r < 9007199254740992 := Nat.lt_of_le_of_lt (spM_le h) (fm_lt r)

theorem pow_le_of {a b m : Nat} (h1 : 2 ^ a ≤ m) (h2 : m < 2 ^ b) : a < b := by
  rcases Nat.lt_or_ge a b with h | h
  · exact h
  · have := Nat.pow_le_pow_right (n := 2) (by omega) h; omega

/-- The bits of a number, and of it shifted. -/
theorem bl_mul {m s : Nat} (h0 : m ≠ 0) (hm : m < 18446744073709551616) : 2 ^ (Lib.bitLen m - 1 + s) ≤ m * 2 ^ s ∧ m * 2 ^ s < 2 ^ (Lib.bitLen m + s) := by
  obtain ⟨h1, h2, h3⟩ := bl h0 hm
  rw [Nat.pow_add, Nat.pow_add]
  exact ⟨Nat.mul_le_mul_right _ h2, Nat.mul_lt_mul_of_pos_right h3 (Nat.two_pow_pos _)⟩

theorem fm_big {r : Nat} (h : ¬ r < 4503599627370496) : fm r = 4503599627370496 + r % 4503599627370496 := by unfold fm; rw [if_neg h]
theorem fm_small {r : Nat} (h : r < 4503599627370496) : fm r = r := by unfold fm; rw [if_pos h]

theorem two52 : 2 ^ 52 = 4503599627370496 := by decide
theorem two53 : 2 ^ 53 = 9007199254740992 := by decide

theorem jsh_sp {r : Nat} (h0 : 0 < r) : jsh (spM r) (spE r) = (Lib.ctz 64 (fm r) : Nat) := by
  have hM := spM_mul h0
  have hl := fm_lt r
  have hp := fm_pos h0
  have ho := spM_odd h0
  have hb := bl_mul (m := spM r) (s := Lib.ctz 64 (fm r)) (by omega) (by have := spM_lt h0; omega)
  rw [hM] at hb
  have h1 := (bl (m := spM r) (by omega) (by have := spM_lt h0; omega)).1
  unfold jsh spE
  by_cases hr : r < 4503599627370496
  · have he : fe r = 0 := by unfold fe; omega
    have hf := fm_small hr
    have hlt : Lib.bitLen (spM r) - 1 + Lib.ctz 64 (fm r) < 52 := pow_le_of hb.1 (by rw [hf, two52]; exact hr)
    omega
  · have hf := fm_big hr
    have h2 : 52 < Lib.bitLen (spM r) + Lib.ctz 64 (fm r) := pow_le_of (by rw [two52]; omega) hb.2
    have h3 : Lib.bitLen (spM r) - 1 + Lib.ctz 64 (fm r) < 53 := pow_le_of hb.1 (by rw [two53]; omega)
    omega

theorem jn_sp {r : Nat} (h0 : 0 < r) : jn (spM r) (spE r) = r := by
  have hs := jsh_sp h0
  unfold jn
  rw [hs]
  have e1 : ((Lib.ctz 64 (fm r) : Nat) : Int).toNat = Lib.ctz 64 (fm r) := by omega
  have e2 : (spE r - ((Lib.ctz 64 (fm r) : Nat) : Int) + 1074).toNat = fe r := by unfold spE; omega
  rw [e1, e2, spM_mul h0]
  by_cases hr : r < 4503599627370496
  · rw [fm_small hr]; unfold fe; omega
  · rw [fm_big hr]; unfold fe; omega

theorem sp_bounds {r : Nat} (h0 : 0 < r) (hr : r < 9218868437227405312) : -1074 ≤ spE r ∧ spE r ≤ 1074 ∧ spE r + (Lib.bitLen (spM r) : Int) ≤ 1024 := by
  have hM := spM_mul h0
  have hl := fm_lt r
  have hp := fm_pos h0
  have ho := spM_odd h0
  have hb := bl_mul (m := spM r) (s := Lib.ctz 64 (fm r)) (by omega) (by have := spM_lt h0; omega)
  rw [hM] at hb
  have h1 := (bl (m := spM r) (by omega) (by have := spM_lt h0; omega)).1
  have h3 : Lib.bitLen (spM r) - 1 + Lib.ctz 64 (fm r) < 53 := pow_le_of hb.1 (by rw [two53]; omega)
  have hf : fe r ≤ 2045 := by unfold fe; omega
  unfold spE
  omega

structure OkP (m : Nat) (e : Int) : Prop where
  odd : m % 2 = 1
  lt : m < 9007199254740992
  low : -1074 ≤ e
  high : e + (Lib.bitLen m : Int) ≤ 1024

theorem OkP.len {m : Nat} {e : Int} (h : OkP m e) : 1 ≤ Lib.bitLen m ∧ Lib.bitLen m ≤ 53 := by
  have ho := h.odd
  have hl := h.lt
  exact ⟨(bl (m := m) (by omega) (by omega)).1, Lib.bitLen_le m 53 (by omega) (by rw [two53]; exact hl)⟩
theorem OkP.sh {m : Nat} {e : Int} (h : OkP m e) : 0 ≤ jsh m e ∧ jsh m e ≤ e + 1074 ∧ jsh m e ≤ 53 - (Lib.bitLen m : Int) := by
  have hl := h.len
  have hw := h.low
  unfold jsh
  omega

theorem sp_jn {m : Nat} {e : Int} (h : OkP m e) : 0 < jn m e ∧ jn m e < 9218868437227405312 ∧ spM (jn m e) = m ∧ spE (jn m e) = e := by
  have ho := h.odd
  have hl := h.lt
  have hlen := h.len
  have hsh := h.sh
  have hh := h.high
  have hw := h.low
  have hb := bl_mul (m := m) (s := (jsh m e).toNat) (by omega) (by omega)
  have hpos : 0 < m * 2 ^ (jsh m e).toNat := Nat.mul_pos (by omega) (Nat.two_pow_pos _)
  have hlt : m * 2 ^ (jsh m e).toNat < 9007199254740992 := by
    have h1 : 2 ^ (Lib.bitLen m + (jsh m e).toNat) ≤ 2 ^ 53 := Nat.pow_le_pow_right (by omega) (by omega)
    rw [two53] at h1
    omega
  have hctz := ctz_of (s := (jsh m e).toNat) ho (by omega)
  have hdiv : m * 2 ^ (jsh m e).toNat / 2 ^ (jsh m e).toNat = m := Nat.mul_div_cancel _ (Nat.two_pow_pos _)
  have key : fm (jn m e) = m * 2 ^ (jsh m e).toNat ∧ fe (jn m e) = (e - jsh m e + 1074).toNat ∧ jn m e < 9218868437227405312 := by
    by_cases hq : jsh m e = e + 1074
    · have hz : (e - jsh m e + 1074).toNat = 0 := by omega
      have hj : jn m e = m * 2 ^ (jsh m e).toNat := by unfold jn; rw [hz]; omega
      rw [hz, hj]
      generalize m * 2 ^ (jsh m e).toNat = n at *
      refine ⟨?_, ?_, ?_⟩
      · unfold fm; split <;> omega
      · unfold fe; omega
      · omega
    · have hs : jsh m e = 53 - (Lib.bitLen m : Int) := by unfold jsh at hq ⊢; omega
      have h52 : 4503599627370496 ≤ m * 2 ^ (jsh m e).toNat := by
        have h1 : 2 ^ 52 ≤ 2 ^ (Lib.bitLen m - 1 + (jsh m e).toNat) := Nat.pow_le_pow_right (by omega) (by omega)
        rw [two52] at h1
        omega
      have hj : jn m e = m * 2 ^ (jsh m e).toNat + (e - jsh m e + 1074).toNat * 4503599627370496 := rfl
      have hqb : (e - jsh m e + 1074).toNat ≤ 2045 := by omega
      rw [hj]
      generalize (e - jsh m e + 1074).toNat = q at *
      generalize m * 2 ^ (jsh m e).toNat = n at *
      refine ⟨?_, ?_, ?_⟩
      · unfold fm; split <;> omega
      · unfold fe; omega
      · omega
  obtain ⟨k1, k2, k3⟩ := key
  refine ⟨by unfold jn; omega, k3, ?_, ?_⟩
  · unfold spM; rw [k1, hctz, hdiv]
  · unfold spE; rw [k1, k2, hctz]; omega

/-! ### Digits -/

def dv (c : UInt8) : Bool := 48 ≤ c.toNat && c.toNat ≤ 57
/-- What these digits say behind m. -/
def dval (m : Nat) (l : List UInt8) : Nat := l.foldl (fun a c => 10 * a + (c.toNat - 48)) m
/-- Digits are read on, as long as the number is below lim. -/
def num (lim : Nat) : Nat → List UInt8 → Option (Nat × List UInt8)
  | m, [] => some (m, [])
  | m, c :: l => if dv c = true then (if 10 * m + (c.toNat - 48) < lim then num lim (10 * m + (c.toNat - 48)) l else none) else some (m, c :: l)

/-- Nothing that begins with a digit. -/
def nodig (l : List UInt8) : Prop := ∀ c r, l = c :: r → dv c = false

theorem num_some {lim : Nat} : ∀ {l : List UInt8} {m v : Nat} {r : List UInt8}, num lim m l = some (v, r) → ∃ ds, l = ds ++ r ∧ (∀ c ∈ ds, dv c = true) ∧ v = dval m ds ∧ nodig r
  | [], m, v, r, h => by
    simp only [num, Option.some.injEq, Prod.mk.injEq] at h
    obtain ⟨rfl, rfl⟩ := h
    exact ⟨[], rfl, by simp, rfl, fun c r h => by cases h⟩
  | c :: l, m, v, r, h => by
    unfold num at h
    split at h
    · rename_i hc
      split at h
      · obtain ⟨ds, h1, h2, h3, h4⟩ := num_some h
        refine ⟨c :: ds, by rw [h1]; rfl, ?_, h3, h4⟩
        intro d hd
        rcases List.mem_cons.1 hd with rfl | hd
        · exact hc
        · exact h2 d hd
      · cases h
    · rename_i hc
      simp only [Option.some.injEq, Prod.mk.injEq] at h
      obtain ⟨rfl, rfl⟩ := h
      refine ⟨[], rfl, by simp, rfl, fun d r h => ?_⟩
      cases h
      simpa using hc
theorem dval_ge (m : Nat) (l : List UInt8) : m ≤ dval m l := by
  induction l generalizing m with
  | nil => exact Nat.le_refl _
  | cons c l ih => have := ih (10 * m + (c.toNat - 48)); simp only [dval, List.foldl_cons] at *; omega
theorem num_of {lim : Nat} : ∀ {ds : List UInt8} {m : Nat} {r : List UInt8}, (∀ c ∈ ds, dv c = true) → nodig r → dval m ds < lim → num lim m (ds ++ r) = some (dval m ds, r)
  | [], m, r, _, hr, _ => by
    cases r with
    | nil => rfl
    | cons c r =>
      have := hr c r rfl
      show num lim m (c :: r) = _
      unfold num
      rw [if_neg (by simp [this])]
      rfl
  | c :: ds, m, r, h, hr, hl => by
    have hc := h c (by simp)
    show num lim m (c :: (ds ++ r)) = _
    unfold num
    have hge := dval_ge (10 * m + (c.toNat - 48)) ds
    have he : dval m (c :: ds) = dval (10 * m + (c.toNat - 48)) ds := rfl
    rw [if_pos hc, if_pos (by omega), num_of (fun d hd => h d (by simp [hd])) hr (by omega), he]

theorem dec_rec (u : Nat) : Lib.decDigits u = if u < 10 then [UInt8.ofNat (48 + u)] else Lib.decDigits (u / 10) ++ [UInt8.ofNat (48 + u % 10)] := by
  rw [Lib.decDigits]
  split <;> rfl
theorem dg_val {d : Nat} (h : d < 10) : (UInt8.ofNat (48 + d)).toNat = 48 + d := by simp; omega
theorem dg_dv {d : Nat} (h : d < 10) : dv (UInt8.ofNat (48 + d)) = true := by unfold dv; rw [dg_val h]; simp; omega

theorem dec_all (u : Nat) : (∀ c ∈ Lib.decDigits u, dv c = true) ∧ dval 0 (Lib.decDigits u) = u := by
  induction u using Nat.strongRecOn with
  | _ u ih =>
    rw [dec_rec]
    split
    · rename_i h
      refine ⟨fun c hc => ?_, ?_⟩
      · rw [List.mem_singleton] at hc; rw [hc]; exact dg_dv h
      · simp only [dval, List.foldl_cons, List.foldl_nil]; rw [dg_val h]; omega
    · rename_i h
      obtain ⟨h1, h2⟩ := ih (u / 10) (by omega)
      have hm : u % 10 < 10 := Nat.mod_lt _ (by omega)
      refine ⟨fun c hc => ?_, ?_⟩
      · rcases List.mem_append.1 hc with hc | hc
        · exact h1 c hc
        · rw [List.mem_singleton] at hc; rw [hc]; exact dg_dv hm
      · unfold dval at h2 ⊢
        rw [List.foldl_append, h2]
        simp only [List.foldl_cons, List.foldl_nil]
        rw [dg_val hm]; omega
theorem dec_ne (u : Nat) : Lib.decDigits u ≠ [] := by rw [dec_rec]; split <;> simp
/-- The first digit of a number above 0 is not 0. -/
theorem dec_head (u : Nat) (h : 0 < u) : ∃ c r, Lib.decDigits u = c :: r ∧ 49 ≤ c.toNat ∧ c.toNat ≤ 57 := by
  induction u using Nat.strongRecOn with
  | _ u ih =>
    rw [dec_rec]
    split
    · rename_i h1
      exact ⟨_, _, rfl, by rw [dg_val h1]; omega, by rw [dg_val h1]; omega⟩
    · obtain ⟨c, r, h1, h2, h3⟩ := ih (u / 10) (by omega) (by omega)
      exact ⟨c, r ++ [UInt8.ofNat (48 + u % 10)], by rw [h1]; rfl, h2, h3⟩

theorem dval_snoc (m : Nat) (l : List UInt8) (c : UInt8) : dval m (l ++ [c]) = 10 * dval m l + (c.toNat - 48) := by simp [dval]
/-- Digits of which the first is not 0 are the number's own. -/
theorem dec_of : ∀ (n : Nat) (ds : List UInt8), ds.length = n + 1 → (∀ c ∈ ds, dv c = true) → (∀ c r, ds = c :: r → 49 ≤ c.toNat) → Lib.decDigits (dval 0 ds) = ds ∧ 0 < dval 0 ds
  | 0, ds, hl, hd, hh => by
    match ds, hl with
    | [c], _ => 
      have h1 := hd c (by simp)
      have h2 := hh c [] rfl
      unfold dv at h1
      simp at h1
      have e : dval 0 [c] = c.toNat - 48 := by simp [dval]
      rw [e, dec_rec, if_pos (by omega)]
      refine ⟨?_, by omega⟩
      congr 1
      apply UInt8.toNat.inj
      rw [dg_val (by omega)]; omega
  | n + 1, ds, hl, hd, hh => by
    have hne : ds ≠ [] := by intro e; rw [e] at hl; cases hl
    obtain ⟨l, c, rfl⟩ : ∃ l c, ds = l ++ [c] := ⟨ds.dropLast, ds.getLast hne, (List.dropLast_concat_getLast hne).symm⟩
    have hl' : l.length = n + 1 := by simpa using hl
    have hh' : ∀ d r, l = d :: r → 49 ≤ d.toNat := fun d r e => hh d (r ++ [c]) (by rw [e]; rfl)
    obtain ⟨i1, i2⟩ := dec_of n l hl' (fun d hd' => hd d (by simp [hd'])) hh'
    have h1 := hd c (by simp)
    unfold dv at h1
    simp at h1
    rw [dval_snoc, dec_rec, if_neg (by omega)]
    refine ⟨?_, by omega⟩
    have e1 : (10 * dval 0 l + (c.toNat - 48)) / 10 = dval 0 l := by omega
    have e2 : (10 * dval 0 l + (c.toNat - 48)) % 10 = c.toNat - 48 := by omega
    rw [e1, e2, i1]
    congr 2
    apply UInt8.toNat.inj
    rw [dg_val (by omega)]; omega
end Go.Proofs.YtmjcjcpifahpaaaDoor
