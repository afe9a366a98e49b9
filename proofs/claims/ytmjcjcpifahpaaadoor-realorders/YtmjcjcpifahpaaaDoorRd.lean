/-
  Texts of floats, read. Nothing here speaks of the program.
-/
import Derived.Test.YtmjcjcpifahpaaaDoorTxt
import Derived.Test.YtmjcjcpifahpaaaDoorFlt
namespace Go.Proofs.YtmjcjcpifahpaaaDoor
open Go
set_option linter.unusedVariables false

/-- A minus sign taken off. -/
def cut (p : UInt8) : List UInt8 → List UInt8 × Bool
  | [] => ([], false)
  | c :: l => if c = p then (l, true) else (c :: l, false)

def big (c : UInt8) : Bool := 49 ≤ c.toNat && c.toNat ≤ 57
def rd4 (m : Nat) (neg : Bool) (e : Nat) (s : List UInt8) : Option (Nat × Int) :=
  match num 1075 e s with
  | some (e, []) => some (m, if neg then -(e : Int) else (e : Int))
  | _ => none
def rd3 (m : Nat) (neg : Bool) (s : List UInt8) : Option (Nat × Int) :=
  match s with
  | [] => none
  | d :: l => if big d = true then rd4 m neg 0 (d :: l) else none
def rd2 (m : Nat) (s : List UInt8) : Option (Nat × Int) :=
  if m % 2 = 0 then none else if s = [112, 48] then some (m, 0) else
    match cut 112 s with
    | (s2, true) => rd3 m (cut 45 s2).2 (cut 45 s2).1
    | (_, false) => none
def rd1 (m : Nat) (s : List UInt8) : Option (Nat × Int) :=
  match num 9007199254740992 m s with
  | some (m, s) => rd2 m s
  | none => none
def rdp (s : List UInt8) : Option (Nat × Int) :=
  match s with
  | [] => none
  | d :: l => if big d = true then rd1 0 (d :: l) else none

theorem big_dv {c : UInt8} (h : big c = true) : dv c = true := by unfold big dv at *; simp at *; omega
theorem nodig_cons {c : UInt8} {l : List UInt8} (h : dv c = false) : nodig (c :: l) := fun d r e => by cases e; exact h
theorem nodig_nil : nodig [] := fun d r e => by cases e

theorem itoa_nat (n : Nat) : Lib.itoa (n : Int) = Lib.decDigits n := by unfold Lib.itoa; rw [if_neg (by omega)]; simp
theorem itoa_neg' (n : Nat) (h : 0 < n) : Lib.itoa (-(n : Int)) = 45 :: Lib.decDigits n := by unfold Lib.itoa; rw [if_pos (by omega)]; simp

theorem itoa_zero : Lib.itoa 0 = [48] := by
  have h := itoa_nat 0
  rw [dec_rec] at h
  exact h

theorem num_big {lim v : Nat} {d : UInt8} {l r : List UInt8} (hd : big d = true) (h : num lim 0 (d :: l) = some (v, r)) (hl : 0 < lim) : d :: l = Lib.decDigits v ++ r ∧ 0 < v ∧ nodig r := by
  obtain ⟨ds, h1, h2, h3, h4⟩ := num_some h
  cases ds with
  | nil => exact absurd (h4 d l h1.symm) (by rw [big_dv hd]; simp)
  | cons c ds =>
    obtain ⟨rfl, h5⟩ := List.cons.inj h1
    have hb : 49 ≤ d.toNat := by unfold big at hd; simp at hd; omega
    obtain ⟨k1, k2⟩ := dec_of ds.length (d :: ds) rfl h2 (fun c r e => by cases e; exact hb)
    rw [← h3] at k1 k2
    exact ⟨by rw [k1, h1], k2, h4⟩
theorem num_dec {lim v : Nat} {r : List UInt8} (hv : v < lim) (hr : nodig r) : num lim 0 (Lib.decDigits v ++ r) = some (v, r) := by
  obtain ⟨h1, h2⟩ := dec_all v
  have := num_of (lim := lim) (m := 0) h1 hr (by rw [h2]; exact hv)
  rw [h2] at this
  exact this
theorem num_lt {lim : Nat} : ∀ {l : List UInt8} {m v : Nat} {r : List UInt8}, num lim m l = some (v, r) → m < lim → v < lim
  | [], m, v, r, h, hm => by
    simp only [num, Option.some.injEq, Prod.mk.injEq] at h
    omega
  | c :: l, m, v, r, h, hm => by
    unfold num at h
    split at h
    · split at h
      · rename_i h2; exact num_lt h h2
      · cases h
    · simp only [Option.some.injEq, Prod.mk.injEq] at h; omega

theorem cut_true {p : UInt8} {s s2 : List UInt8} (h : cut p s = (s2, true)) : s = p :: s2 := by
  cases s with
  | nil => simp [cut] at h
  | cons c l =>
    simp only [cut] at h
    split at h
    · rename_i e; simp at h; rw [e, h]
    · simp at h
theorem cut_false {p : UInt8} {s s2 : List UInt8} (h : cut p s = (s2, false)) : s = s2 := by
  cases s with
  | nil => simp [cut] at h; exact h.symm
  | cons c l =>
    simp only [cut] at h
    split at h
    · simp at h
    · simp at h; exact h

theorem rd4_some {m : Nat} {neg : Bool} {d : UInt8} {l : List UInt8} {m' : Nat} {e : Int} (hd : big d = true) (h : rd4 m neg 0 (d :: l) = some (m', e)) :
    m' = m ∧ (if neg then 45 :: (d :: l) else d :: l) = Lib.itoa e ∧ -1074 ≤ e ∧ e ≤ 1074 ∧ e ≠ 0 := by
  unfold rd4 at h
  split at h
  · rename_i e1 he
    simp only [Option.some.injEq, Prod.mk.injEq] at h
    obtain ⟨rfl, rfl⟩ := h
    obtain ⟨h1, h2, _⟩ := num_big hd he (by omega)
    have h3 := num_lt he (by omega)
    rw [List.append_nil] at h1
    refine ⟨rfl, ?_, ?_, ?_, ?_⟩
    · cases neg with
      | true => simp only [if_true]; rw [itoa_neg' _ h2, h1]
      | false => simp only [Bool.false_eq_true, if_false]; rw [itoa_nat, h1]
    all_goals (split <;> omega)
  · cases h

theorem rd2_some {m m' : Nat} {s : List UInt8} {e : Int} (h : rd2 m s = some (m', e)) : m' = m ∧ m % 2 = 1 ∧ s = 112 :: Lib.itoa e ∧ -1074 ≤ e ∧ e ≤ 1074 := by
  unfold rd2 at h
  split at h
  · cases h
  · split at h
    · rename_i h2
      simp only [Option.some.injEq, Prod.mk.injEq] at h
      obtain ⟨rfl, rfl⟩ := h
      refine ⟨rfl, by omega, ?_, by omega, by omega⟩
      rw [h2, itoa_zero]
    · split at h
      · rename_i s2 hc
        have hs := cut_true hc
        unfold rd3 at h
        split at h
        · cases h
        · rename_i d l hs3
          split at h
          · rename_i hd
            obtain ⟨h1, h2, h3, h4, _⟩ := rd4_some hd h
            refine ⟨h1, by omega, ?_, h3, h4⟩
            rw [hs, ← h2]
            congr 1
            cases hn : (cut 45 s2).2 with
            | true =>
              have := cut_true (p := 45) (s := s2) (s2 := (cut 45 s2).1) (by rw [← hn])
              simp only [if_true]
              rw [this, ← hs3]
            | false =>
              have := cut_false (p := 45) (s := s2) (s2 := (cut 45 s2).1) (by rw [← hn])
              simp only [Bool.false_eq_true, if_false]
              rw [← hs3]; exact this
          · cases h
      · cases h

/-- What is read is a number's text. -/
theorem rdp_some {s : List UInt8} {m : Nat} {e : Int} (h : rdp s = some (m, e)) : s = Lib.decDigits m ++ 112 :: Lib.itoa e ∧ m % 2 = 1 ∧ m < 9007199254740992 ∧ -1074 ≤ e ∧ e ≤ 1074 := by
  unfold rdp at h
  split at h
  · cases h
  · rename_i d l
    split at h
    · rename_i hd
      unfold rd1 at h
      split at h
      · rename_i m1 s1 hn
        obtain ⟨h1, h2, h3, h4, h5⟩ := rd2_some h
        subst h1
        obtain ⟨k1, k2, _⟩ := num_big hd hn (by omega)
        exact ⟨by rw [k1, h3], h2, num_lt hn (by omega), h4, h5⟩
      · cases h
    · cases h

theorem dv_112 : dv 112 = false := by decide
theorem head_big {v : Nat} (h : 0 < v) (r : List UInt8) : ∃ d l, Lib.decDigits v ++ r = d :: l ∧ big d = true := by
  obtain ⟨c, t, h1, h2, h3⟩ := dec_head v h
  exact ⟨c, t ++ r, by rw [h1]; rfl, by unfold big; simp; omega⟩

theorem rd3_of {m : Nat} {e : Int} (he : e ≠ 0) (h1 : -1074 ≤ e) (h2 : e ≤ 1074) : rd3 m (cut 45 (Lib.itoa e)).2 (cut 45 (Lib.itoa e)).1 = some (m, e) := by
  rcases Int.lt_or_lt_of_ne he with hn | hp
  · obtain ⟨n, rfl⟩ : ∃ n : Nat, e = -(n : Int) := ⟨e.natAbs, by omega⟩
    have hc : cut 45 (45 :: Lib.decDigits n) = (Lib.decDigits n, true) := by simp [cut]
    rw [itoa_neg' n (by omega), hc]
    obtain ⟨d, l, k1, k2⟩ := head_big (v := n) (by omega) []
    rw [List.append_nil] at k1
    have hx := num_dec (lim := 1075) (v := n) (r := []) (by omega) nodig_nil
    rw [List.append_nil, k1] at hx
    unfold rd3
    simp only [k1, k2, if_true]
    unfold rd4
    rw [hx]
    simp
  · obtain ⟨n, rfl⟩ : ∃ n : Nat, e = (n : Int) := ⟨e.natAbs, by omega⟩
    obtain ⟨d, l, k1, k2⟩ := head_big (v := n) (by omega) []
    rw [List.append_nil] at k1
    have hne : d ≠ 45 := by intro e; rw [e] at k2; exact absurd k2 (by decide)
    have hc : cut 45 (Lib.decDigits n) = (Lib.decDigits n, false) := by rw [k1]; simp [cut, hne]
    rw [itoa_nat, hc]
    have hx := num_dec (lim := 1075) (v := n) (r := []) (by omega) nodig_nil
    rw [List.append_nil, k1] at hx
    unfold rd3
    simp only [k1, k2, if_true]
    unfold rd4
    rw [hx]
    simp

theorem rdp_of {m : Nat} {e : Int} (hm : m % 2 = 1) (hl : m < 9007199254740992) (h1 : -1074 ≤ e) (h2 : e ≤ 1074) : rdp (Lib.decDigits m ++ 112 :: Lib.itoa e) = some (m, e) := by
  obtain ⟨d, l, k1, k2⟩ := head_big (v := m) (by omega) (112 :: Lib.itoa e)
  have hx := num_dec (lim := 9007199254740992) (v := m) (r := 112 :: Lib.itoa e) hl (nodig_cons dv_112)
  rw [k1] at hx ⊢
  unfold rdp
  simp only [k2, if_true]
  unfold rd1
  rw [hx]
  simp only
  unfold rd2
  rw [if_neg (by omega)]
  have hc : cut 112 (112 :: Lib.itoa e) = (Lib.itoa e, true) := by simp [cut]
  by_cases he : e = 0
  · subst he
    rw [if_pos (by rw [itoa_zero])]
  · rw [if_neg, hc]
    · exact rd3_of he h1 h2
    · intro h
      have h' : Lib.itoa e = [48] := (List.cons.inj h).2
      rcases Int.lt_or_lt_of_ne he with hn | hp
      · obtain ⟨n, rfl⟩ : ∃ n : Nat, e = -(n : Int) := ⟨e.natAbs, by omega⟩
        rw [itoa_neg' n (by omega)] at h'
        exact absurd (List.cons.inj h').1 (by decide)
      · obtain ⟨n, rfl⟩ : ∃ n : Nat, e = (n : Int) := ⟨e.natAbs, by omega⟩
        obtain ⟨d, l, k1, k2⟩ := head_big (v := n) (by omega) []
        rw [List.append_nil] at k1
        rw [itoa_nat, k1] at h'
        have := (List.cons.inj h').1
        rw [this] at k2
        exact absurd k2 (by decide)

/-! ### Texts of whole floats -/

/-- The text of a rung. -/
def szt (r : Nat) : List UInt8 := if r = 0 then [48] else if r = 9218868437227405312 then [105, 110, 102] else Lib.decDigits (spM r) ++ 112 :: Lib.itoa (spE r)
def rsz (l : List UInt8) : Option Nat := if l = [48] then some 0 else if l = [105, 110, 102] then some 9218868437227405312 else
  match rdp l with
  | some (m, e) => if e + (Lib.bitLen m : Int) > 1024 then none else some (jn m e)
  | none => none

theorem szt_fin {r : Nat} (h0 : r ≠ 0) (h1 : r ≠ 9218868437227405312) : szt r = Lib.decDigits (spM r) ++ 112 :: Lib.itoa (spE r) := by unfold szt; rw [if_neg h0, if_neg h1]
theorem rdp_48 : rdp [48] = none := by decide
theorem rdp_inf : rdp [105, 110, 102] = none := by decide

theorem rsz_some {l : List UInt8} {r : Nat} (h : rsz l = some r) : r ≤ 9218868437227405312 ∧ szt r = l := by
  unfold rsz at h
  split at h
  · rename_i e; cases h; exact ⟨by omega, by rw [e]; rfl⟩
  · split at h
    · rename_i e; cases h; exact ⟨by omega, by rw [e]; rfl⟩
    · split at h
      · rename_i m e hr
        split at h
        · cases h
        · obtain ⟨h1, h2, h3, h4, h5⟩ := rdp_some hr
          cases h
          have ok : OkP m e := ⟨h2, h3, h4, by omega⟩
          obtain ⟨k1, k2, k3, k4⟩ := sp_jn ok
          refine ⟨by omega, ?_⟩
          rw [szt_fin (by omega) (by omega), k3, k4, h1]
      · cases h
theorem rsz_of {r : Nat} (h : r ≤ 9218868437227405312) : rsz (szt r) = some r := by
  by_cases h0 : r = 0
  · subst h0; rfl
  · by_cases h1 : r = 9218868437227405312
    · subst h1; rfl
    · obtain ⟨b1, b2, b3⟩ := sp_bounds (r := r) (by omega) (by omega)
      have ho := spM_odd (r := r) (by omega)
      have hl := spM_lt (r := r) (by omega)
      have hr := rdp_of ho hl b1 b2
      rw [szt_fin h0 h1]
      unfold rsz
      rw [if_neg (fun e => by rw [e, rdp_48] at hr; cases hr), if_neg (fun e => by rw [e, rdp_inf] at hr; cases hr), hr]
      simp only
      rw [if_neg (by omega), jn_sp (by omega)]

/-- The text of a float. -/
def txt (b : Nat) : List UInt8 := if isN b = true then [110, 97, 110] else if 9223372036854775808 ≤ b then 45 :: szt (b % 9223372036854775808) else szt (b % 9223372036854775808)
def rdf (l : List UInt8) : Option Nat := if l = [110, 97, 110] then some 9221120237041090561 else
  match rsz (cut 45 l).1 with
  | some r => some (if (cut 45 l).2 then 9223372036854775808 + r else r)
  | none => none

theorem szt_no45 {r : Nat} (h : r ≤ 9218868437227405312) : ∃ c l, szt r = c :: l ∧ c ≠ 45 ∧ c ≠ 110 := by
  unfold szt
  split
  · exact ⟨_, _, rfl, by decide, by decide⟩
  · split
    · exact ⟨_, _, rfl, by decide, by decide⟩
    · rename_i h0 h1
      obtain ⟨d, l, k1, k2⟩ := head_big (v := spM r) (by have := spM_odd (r := r) (by omega); omega) (112 :: Lib.itoa (spE r))
      refine ⟨d, l, k1, ?_, ?_⟩ <;> (intro e; rw [e] at k2; exact absurd k2 (by decide))

/-- Read of Text. -/
theorem rdf_txt {b : Nat} (hb : b < 18446744073709551616) : ∃ b', rdf (txt b) = some b' ∧ b' < 18446744073709551616 ∧ plc b' = plc b := by
  by_cases hn : isN b = true
  · refine ⟨9221120237041090561, by unfold txt; rw [if_pos hn]; unfold rdf; rw [if_pos rfl], by omega, ?_⟩
    have : isN 9221120237041090561 = true := by rw [isN_eq]; omega
    unfold plc
    rw [this, hn]
    simp only [if_true]
  · refine ⟨b, ?_, hb, rfl⟩
    have hr : b % 9223372036854775808 ≤ 9218868437227405312 := by
      have : isN b = false := by simpa using hn
      rw [isN_neq] at this; exact this
    obtain ⟨c, l, e1, e2, e3⟩ := szt_no45 hr
    unfold txt
    rw [if_neg hn]
    split
    · rename_i hs
      unfold rdf
      have hc : cut 45 (45 :: szt (b % 9223372036854775808)) = (szt (b % 9223372036854775808), true) := by simp [cut]
      rw [if_neg (by intro e; exact absurd (List.cons.inj e).1 (by decide)), hc]
      simp only [rsz_of hr, if_true]
      congr 1; omega
    · unfold rdf
      have hc : cut 45 (szt (b % 9223372036854775808)) = (szt (b % 9223372036854775808), false) := by rw [e1]; simp [cut, e2]
      rw [if_neg (by rw [e1]; intro e; exact absurd (List.cons.inj e).1 e3), hc]
      simp only [rsz_of hr, Bool.false_eq_true, if_false]
      congr 1; omega
/-- Text of Read. -/
theorem txt_rdf {l : List UInt8} {b : Nat} (h : rdf l = some b) : b < 18446744073709551616 ∧ txt b = l := by
  unfold rdf at h
  split at h
  · rename_i e
    cases h
    refine ⟨by omega, ?_⟩
    have : isN 9221120237041090561 = true := by rw [isN_eq]; omega
    unfold txt
    rw [if_pos this, e]
  · split at h
    · rename_i hne r hr
      obtain ⟨h1, h2⟩ := rsz_some hr
      cases hc : (cut 45 l).2 with
      | true =>
        have hl := cut_true (p := 45) (s := l) (s2 := (cut 45 l).1) (by rw [← hc])
        rw [hc] at h
        simp only [if_true, Option.some.injEq] at h
        subst h
        refine ⟨by omega, ?_⟩
        have hm : (9223372036854775808 + r) % 9223372036854775808 = r := by omega
        have hn : ¬ isN (9223372036854775808 + r) = true := by rw [isN_eq]; omega
        unfold txt
        rw [if_neg hn, if_pos (by omega), hm, h2, hl]
        simp [cut]
      | false =>
        have hl := cut_false (p := 45) (s := l) (s2 := (cut 45 l).1) (by rw [← hc])
        rw [hc] at h
        simp only [Bool.false_eq_true, if_false, Option.some.injEq] at h
        subst h
        refine ⟨by omega, ?_⟩
        have hm : r % 9223372036854775808 = r := by omega
        have hn : ¬ isN r = true := by rw [isN_eq]; omega
        unfold txt
        rw [if_neg hn, if_neg (by omega), hm, h2, ← hl]
    · cases h
end Go.Proofs.YtmjcjcpifahpaaaDoor
