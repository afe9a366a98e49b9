/-
  Where two texts differ: bits of bytes, and what both Bursts find.
-/
import Derived.Test.YtkfpgmpjimnleaaDoorC4
import Derived.Test.YtkfpgmpjimnleaaDoorC8
namespace Go.Proofs.YtkfpgmpjimnleaaDoor
open Go.RowKit
set_option linter.unusedVariables false

/-- How many bits a byte takes. -/
def ln8 (u : Nat) : Nat := if u = 0 then 0 else Nat.log2 u + 1

set_option maxRecDepth 100000 in
set_option maxHeartbeats 1000000 in
theorem tz8_any (w : World) (u : Nat) (hu : u < 256) :
    Calls Tryd.prog 43 #[.int .u8 u] w fun e w' => e = .returned (.int .i64 (Lib.ctz 8 u)) ∧ w' = w := by
  go_enter Tryd.func43, Tryd.ntmps43
  go_wp2
  go_ret
  refine ⟨ret_int ?_, rfl⟩
  clear w
  revert u
  decide +kernel

set_option maxRecDepth 100000 in
set_option maxHeartbeats 1000000 in
theorem ln8_any (w : World) (u : Nat) (hu : u < 256) :
    Calls Tryd.prog 44 #[.int .u8 u] w fun e w' => e = .returned (.int .i64 (ln8 u)) ∧ w' = w := by
  go_enter Tryd.func44, Tryd.ntmps44
  go_wp2
  go_ret
  refine ⟨ret_int ?_, rfl⟩
  clear w
  revert u
  decide +kernel

/-- The lowest and the highest bit of a byte. -/
theorem byte_bits : ∀ u, u < 256 → u ≠ 0 → Lib.ctz 8 u < 8 ∧ u.testBit (Lib.ctz 8 u) = true ∧ (∀ q, q < 8 → q < Lib.ctz 8 u → u.testBit q = false) ∧ 0 < ln8 u ∧ ln8 u ≤ 8 ∧ u.testBit (ln8 u - 1) = true ∧ (∀ q, q < 8 → ln8 u - 1 < q → u.testBit q = false) ∧ Lib.ctz 8 u ≤ ln8 u - 1 := by
  decide +kernel

/-- A bit of a text is a bit of a byte. -/
theorem val_bit (l : List UInt8) : ∀ (j r : Nat) (hj : j < l.length), r < 8 → (val l).testBit (8 * j + r) = l[j].toNat.testBit r := by
  induction l with
  | nil => intro j r hj; simp at hj
  | cons c t ih =>
    intro j r hj hr
    have h := Nat.testBit_two_pow_mul_add (val t) (b := c.toNat) (i := 8) c.toNat_lt (8 * j + r)
    rw [show val (c :: t) = 2 ^ 8 * val t + c.toNat from by simp [val]; omega, h]
    cases j with
    | zero => simp [hr]
    | succ j =>
      rw [if_neg (by omega), show 8 * (j + 1) + r - 8 = 8 * j + r from by omega]
      exact ih j r (by simpa using hj) hr

/-- The first and the last bit of V below p, and whether there is one. -/
def Bst (V p f l : Nat) (any : Bool) : Prop :=
  (any = false ∧ f = 0 ∧ l = 0 ∧ ∀ q, q < p → V.testBit q = false) ∨
  (any = true ∧ f ≤ l ∧ l < p ∧ V.testBit f = true ∧ (∀ q, q < f → V.testBit q = false) ∧ V.testBit l = true ∧ ∀ q, l < q → q < p → V.testBit q = false)

theorem Bst.one {V p f l f' l' : Nat} {a a' : Bool} (h : Bst V p f l a) (h' : Bst V p f' l' a') : f = f' ∧ l = l' ∧ a = a' := by
  rcases h with ⟨rfl, rfl, rfl, hn⟩ | ⟨rfl, h1, h2, h3, h4, h5, h6⟩ <;> rcases h' with ⟨rfl, rfl, rfl, hn'⟩ | ⟨rfl, k1, k2, k3, k4, k5, k6⟩
  · exact ⟨rfl, rfl, rfl⟩
  · rw [hn _ k2] at k5; cases k5
  · rw [hn' _ h2] at h5; cases h5
  · have e1 : f = f' := by
      rcases Nat.lt_trichotomy f f' with h | h | h
      · rw [k4 _ h] at h3; cases h3
      · exact h
      · rw [h4 _ h] at k3; cases k3
    have e2 : l = l' := by
      rcases Nat.lt_trichotomy l l' with h | h | h
      · rw [h6 _ h k2] at k5; cases k5
      · exact h
      · rw [k6 _ h h2] at h5; cases h5
    exact ⟨e1, e2, rfl⟩

theorem Bst.start (V : Nat) : Bst V 0 0 0 false := Or.inl ⟨rfl, rfl, rfl, fun q hq => by omega⟩
/-- No bit more. -/
theorem Bst.skip {V p f l : Nat} {a : Bool} (h : Bst V p f l a) (d : Nat) (hd : ∀ r, r < d → V.testBit (p + r) = false) : Bst V (p + d) f l a := by
  have hz : ∀ q, p ≤ q → q < p + d → V.testBit q = false := fun q h1 h2 => by
    have := hd (q - p) (by omega)
    rwa [show p + (q - p) = q from by omega] at this
  rcases h with ⟨rfl, rfl, rfl, hn⟩ | ⟨rfl, h1, h2, h3, h4, h5, h6⟩
  · exact Or.inl ⟨rfl, rfl, rfl, fun q hq => by
      by_cases hp : q < p
      · exact hn q hp
      · exact hz q (by omega) hq⟩
  · exact Or.inr ⟨rfl, h1, by omega, h3, h4, h5, fun q hl hq => by
      by_cases hp : q < p
      · exact h6 q hl hp
      · exact hz q (by omega) hq⟩
/-- Some bits more: the first one at t, the last one at u. -/
theorem Bst.more {V p f l : Nat} {a : Bool} (h : Bst V p f l a) (d t u : Nat) (htu : t ≤ u) (hu : u < d) (ht : V.testBit (p + t) = true) (hb : ∀ r, r < t → V.testBit (p + r) = false) (hu2 : V.testBit (p + u) = true) (hc : ∀ r, u < r → r < d → V.testBit (p + r) = false) : Bst V (p + d) (if a = true then f else p + t) (p + u) true := by
  have hz : ∀ q, p + u < q → q < p + d → V.testBit q = false := fun q h1 h2 => by
    have := hc (q - p) (by omega) (by omega)
    rwa [show p + (q - p) = q from by omega] at this
  rcases h with ⟨rfl, rfl, rfl, hn⟩ | ⟨rfl, h1, h2, h3, h4, h5, h6⟩
  · refine Or.inr ⟨rfl, by simp; omega, by omega, by simpa using ht, fun q hq => ?_, hu2, hz⟩
    simp at hq
    by_cases hp : q < p
    · exact hn q hp
    · have := hb (q - p) (by omega)
      rwa [show p + (q - p) = q from by omega] at this
  · exact Or.inr ⟨rfl, by simp; omega, by omega, by simpa using h3, fun q hq => h4 q (by simpa using hq), hu2, hz⟩

theorem u8_shift (c r : Nat) : ((c : Int) / 2 ^ r) % 2 = ((c / 2 ^ r % 2 : Nat) : Int) ∧ ((c : Int) / 2 ^ r).tmod 2 = ((c / 2 ^ r % 2 : Nat) : Int) := by
  rw [show (2 : Int) ^ r = ((2 ^ r : Nat) : Int) from by simp, ← Int.natCast_ediv, Int.tmod_eq_emod_of_nonneg (Int.natCast_nonneg (c / 2 ^ r))]
  exact ⟨rfl, rfl⟩

set_option maxRecDepth 100000 in
set_option maxHeartbeats 1000000 in
theorem bit_any (w : World) (b o n cap i : Nat) (l : List UInt8) (hb : Bs w (some ⟨b, o, none⟩) n cap l) (hi : i < 8 * n) (hn : n ≤ 20000) :
    Calls Tryd.prog 45 #[.slice (some ⟨b, o, none⟩) n cap, .int .i64 i] w fun e w' => e = .returned (.bool ((val l).testBit i)) ∧ w' = w := by
  have hlen := hb.len
  obtain ⟨j, hj⟩ : ∃ j, j = i / 8 := ⟨_, rfl⟩
  obtain ⟨r, hr⟩ : ∃ r, r = i % 8 := ⟨_, rfl⟩
  have hr8 : r < 8 := by omega
  have hjn : j < n := by omega
  have hjl : j < l.length := by omega
  have f1 : (i : Int) / 8 = (j : Int) := by omega
  have f2 : (i : Int) % 8 = (r : Int) := by omega
  have hcell := hb.at hjl
  have hvb := val_bit l j r hjl hr8
  have e9 := Nat.testBit_eq_decide_div_mod_eq (x := l[j].toNat) (i := r)
  rw [show 8 * j + r = i from by omega, e9] at hvb
  clear e9
  obtain ⟨s1, s2⟩ := u8_shift l[j].toNat r
  have hcl := l[j].toNat_lt
  generalize l[j].toNat = c at *
  have HV : Hid ((val l).testBit i = decide (c / 2 ^ r % 2 = 1)) := hvb
  clear hvb hj hr
  generalize c / 2 ^ r % 2 = z at *
  go_enter Tryd.func45, Tryd.ntmps45
  go_wp2
  go_ret
  refine ⟨?_, rfl⟩
  rw [HV.out]
  show Ending.returned (.bool ((z : Int) == 1)) = _
  have e : ((z : Int) == 1) = decide (z = 1) := by
    rw [Bool.eq_iff_iff]
    simp
    omega
  rw [e]

set_option maxRecDepth 100000 in
set_option maxHeartbeats 1000000 in
theorem rburst_none (w : World) (ao bo : Option Addr) (n m c d : Nat) (h : n ≠ m) :
    Calls Tryd.prog 26 #[.slice ao n c, .slice bo m d] w fun e w' => e = .returned (.tuple #[.int .i64 0, .int .i64 0, .bool false]) ∧ w' = w := by
  have hd : (((n : Int)) != (m : Int)) = true := by simp; omega
  go_enter Tryd.func26, Tryd.ntmps26
  go_wp2
  exact bodyPost_ret (v := .tuple #[.int .i64 0, .int .i64 0, .bool false]) (by simp [results, Tryd.results26, go_sem]) rfl ⟨rfl, rfl⟩

set_option maxRecDepth 100000 in
set_option maxHeartbeats 1000000 in
theorem burst_none (w : World) (ao bo : Option Addr) (n m c d : Nat) (h : n ≠ m) :
    Calls Tryd.prog 25 #[.slice ao n c, .slice bo m d] w fun e w' => e = .returned (.tuple #[.int .i64 0, .int .i64 0, .bool false]) ∧ w' = w := by
  have hd : (((n : Int)) != (m : Int)) = true := by simp; omega
  go_enter Tryd.func25, Tryd.ntmps25
  go_wp2
  exact bodyPost_ret (v := .tuple #[.int .i64 0, .int .i64 0, .bool false]) (by simp [results, Tryd.results25, go_sem]) rfl ⟨rfl, rfl⟩

/-- What a Burst answers. -/
def BurstOk (V p : Nat) (e : Ending) : Prop := ∃ (f l : Nat) (a : Bool), e = .returned (.tuple #[.int .i64 f, .int .i64 l, .bool a]) ∧ Bst V p f l a

set_option maxRecDepth 100000 in
set_option maxHeartbeats 2000000 in
theorem rburst_any (w : World) (ao bo : Option Addr) (n c d : Nat) (x y : List UInt8) (ha : Bs w ao n c x) (hb : Bs w bo n d y) (hn : n ≤ 20000) :
    Calls Tryd.prog 26 #[.slice ao n c, .slice bo n d] w fun e w' => BurstOk (val x ^^^ val y) (8 * n) e ∧ w' = w := by
  go_enter Tryd.func26, Tryd.ntmps26
  go_wp2_with fail
  go_loop [7, 8, 9, 10] (fun f' l' a' i' => ∃ (i f l : Nat) (a : Bool), i ≤ 8 * n ∧ f' = .int .i64 f ∧ l' = .int .i64 l ∧ a' = .bool a ∧ i' = .int .i64 i ∧ Bst (val x ^^^ val y) i f l a) (fun _ _ _ i' => 8 * n - (intOf i').toNat)
  case atStart => exact ⟨0, 0, 0, false, Nat.zero_le _, rfl, rfl, rfl, rfl, Bst.start _⟩
  case round =>
    obtain ⟨i, f, l, a, hi, rfl, rfl, rfl, rfl, hB⟩ := hrel
    by_cases hlt : i < 8 * n
    · obtain ⟨b1, o1, rfl, _⟩ := ha.addr (by omega)
      obtain ⟨b2, o2, rfl, _⟩ := hb.addr (by omega)
      have hx := fun w (h : Bs w (some ⟨b1, o1, none⟩) n c x) => bit_any w b1 o1 n c i x h hlt hn
      have hy := fun w (h : Bs w (some ⟨b2, o2, none⟩) n d y) => bit_any w b2 o2 n d i y h hlt hn
      have hV : (val x ^^^ val y).testBit i = ((val x).testBit i ^^ (val y).testBit i) := Nat.testBit_xor ..
      have hlt' : (i : Int) < 8 * (n : Int) := by omega
      by_cases hs : (val x).testBit i = (val y).testBit i
      · have hB2 : Bst (val x ^^^ val y) (i + 1) f l a := hB.skip 1 (fun r hr => by obtain rfl : r = 0 := (by omega); rw [Nat.add_zero, hV, hs]; simp)
        rw [hs] at hx
        clear hV hs
        generalize (val y).testBit i = t at *
        go_wp2_with (first
          | (go_at_call_of 45 b1; refine (hx _ ha).mono ?_; rintro e w ⟨rfl, hw⟩; subst hw)
          | (go_at_call_of 45 b2; refine (hy _ hb).mono ?_; rintro e w ⟨rfl, hw⟩; subst hw))
        go_round
        case rel => exact ⟨i + 1, f, l, a, by omega, rfl, rfl, rfl, by go_num, hB2⟩
        case measure => simp [intOf]; omega
      · have hV1 : (val x ^^^ val y).testBit i = true := by rw [hV]; revert hs; cases (val x).testBit i <;> cases (val y).testBit i <;> simp
        have hB2 : Bst (val x ^^^ val y) (i + 1) (if a = true then f else i) i true := hB.more 1 0 0 (by omega) (by omega) (by simpa using hV1) (fun r hr => by omega) (by simpa using hV1) (fun r h1 h2 => by omega)
        have hst : (val x).testBit i = !(val y).testBit i := by revert hs; cases (val x).testBit i <;> cases (val y).testBit i <;> simp
        rw [hst] at hx
        clear hV hV1 hs hst
        generalize (val y).testBit i = t at *
        cases a with
        | true =>
          cases t
          all_goals
            go_wp2_with (first
              | (go_at_call_of 45 b1; refine (hx _ ha).mono ?_; rintro e w ⟨rfl, hw⟩; subst hw)
              | (go_at_call_of 45 b2; refine (hy _ hb).mono ?_; rintro e w ⟨rfl, hw⟩; subst hw))
            go_round
            case rel => exact ⟨i + 1, f, i, true, by omega, rfl, rfl, rfl, by go_num, by simpa using hB2⟩
            case measure => simp [intOf]; omega
        | false =>
          cases t
          all_goals
            go_wp2_with (first
              | (go_at_call_of 45 b1; refine (hx _ ha).mono ?_; rintro e w ⟨rfl, hw⟩; subst hw)
              | (go_at_call_of 45 b2; refine (hy _ hb).mono ?_; rintro e w ⟨rfl, hw⟩; subst hw))
            go_round
            case rel => exact ⟨i + 1, i, i, true, by omega, rfl, rfl, rfl, by go_num, by simpa using hB2⟩
            case measure => simp [intOf]; omega
    · obtain rfl : i = 8 * n := by omega
      have hlt' : ¬ ((8 : Int) * (n : Int) < 8 * (n : Int)) := by omega
      go_wp2
      exact bodyPost_ret (v := .tuple #[.int .i64 f, .int .i64 l, .bool a]) (by simp [results, Tryd.results26, go_sem]) rfl ⟨⟨f, l, a, rfl, hB⟩, rfl⟩

set_option maxRecDepth 100000 in
set_option maxHeartbeats 2000000 in
theorem burst_any (w : World) (ao bo : Option Addr) (n c d : Nat) (x y : List UInt8) (ha : Bs w ao n c x) (hb : Bs w bo n d y) (hn : n ≤ 20000) :
    Calls Tryd.prog 25 #[.slice ao n c, .slice bo n d] w fun e w' => BurstOk (val x ^^^ val y) (8 * n) e ∧ w.grownBy w' none := by
  go_enter Tryd.func25, Tryd.ntmps25
  go_wp2_with fail
  go_loopw [4, 5, 6, 7, 8, 16] (fun f' l' a' _ _ i' wr => ∃ (k f l : Nat) (a : Bool), k ≤ n ∧ f' = .int .i64 f ∧ l' = .int .i64 l ∧ a' = .bool a ∧ i' = .int .i64 k ∧ Bst (val x ^^^ val y) (8 * k) f l a ∧ w.grownBy wr none) (fun _ _ _ _ _ i' _ => n - (intOf i').toNat)
  case atStart => exact ⟨0, 0, 0, false, Nat.zero_le _, rfl, rfl, rfl, rfl, Bst.start _, grown_refl _ _⟩
  case round =>
    obtain ⟨k, f, l, a, hk, rfl, rfl, rfl, rfl, hB, hg⟩ := hrel
    by_cases hlt : k < n
    · obtain ⟨b1, o1, rfl, _⟩ := ha.addr (by omega)
      obtain ⟨b2, o2, rfl, _⟩ := hb.addr (by omega)
      have hxl : k < x.length := by rw [ha.len]; exact hlt
      have hyl : k < y.length := by rw [hb.len]; exact hlt
      have c1 := (ha.grown hg).at hxl
      have c2 := (hb.grown hg).at hyl
      have hV : ∀ r, r < 8 → (val x ^^^ val y).testBit (8 * k + r) = (x[k].toNat ^^^ y[k].toNat).testBit r := fun r hr => by
        rw [Nat.testBit_xor, Nat.testBit_xor, val_bit x k r hxl hr, val_bit y k r hyl hr]
      have hu : x[k].toNat ^^^ y[k].toNat < 256 := Nat.xor_lt_two_pow (n := 8) x[k].toNat_lt y[k].toNat_lt
      have hxr := u8_xor_nat x[k].toNat y[k].toNat x[k].toNat_lt y[k].toNat_lt
      generalize x[k].toNat = p at *
      generalize y[k].toNat = q at *
      generalize p ^^^ q = u at *
      have hd : decide ((k : Int) < (n : Int)) = true := by simp; omega
      by_cases h0 : u = 0
      · subst h0
        have hB2 : Bst (val x ^^^ val y) (8 * (k + 1)) f l a := by
          have h9 := hB.skip 8 (fun r hr => by rw [hV r hr]; simp)
          rwa [show 8 * k + 8 = 8 * (k + 1) from by omega] at h9
        clear hV
        go_wp2_with fail
        go_quiet (fail)
        have hgq := grown_trans hg (grown_drewN wr nq none) (by simp)
        clear c1 c2
        generalize wr.drewN nq = wq at *
        go_wp2
        go_roundw
        case rel => exact ⟨k + 1, f, l, a, by omega, rfl, rfl, rfl, by go_num, hB2, hgq⟩
        case measure => simp [intOf]; omega
      · obtain ⟨t1, t2, t3, t4, t5, t6, t7, t8⟩ := byte_bits u hu h0
        have hB2 : Bst (val x ^^^ val y) (8 * (k + 1)) (if a = true then f else 8 * k + Lib.ctz 8 u) (8 * k + (ln8 u - 1)) true := by
          have h9 := hB.more 8 (Lib.ctz 8 u) (ln8 u - 1) t8 (by omega) (by rw [hV _ t1]; exact t2) (fun r hr => by rw [hV _ (by omega)]; exact t3 r (by omega) hr) (by rw [hV _ (by omega)]; exact t6) (fun r h1 h2 => by rw [hV _ h2]; exact t7 r h2 h1)
          rwa [show 8 * k + 8 = 8 * (k + 1) from by omega] at h9
        have htz := fun w => tz8_any w u hu
        have hln := fun w => ln8_any w u hu
        have hu0 : ((u : Int) == 0) = false := by simp; omega
        clear hV t2 t3 t6 t7
        generalize Lib.ctz 8 u = tz at *
        generalize ln8 u = ln at *
        cases a with
        | true =>
          go_wp2_with fail
          go_quiet (fail)
          have hgq := grown_trans hg (grown_drewN wr nq none) (by simp)
          clear c1 c2
          generalize wr.drewN nq = wq at *
          go_wp2_with (go_at_call 44; refine (hln _).mono ?_; rintro e wq ⟨rfl, hw⟩; subst hw)
          go_roundw
          case rel => exact ⟨k + 1, f, 8 * k + (ln - 1), true, by omega, rfl, congrArg (Value.int .i64) (by omega), rfl, by go_num, by simpa using hB2, hgq⟩
          case measure => simp [intOf]; omega
        | false =>
          go_wp2_with fail
          go_quiet (fail)
          have hgq := grown_trans hg (grown_drewN wr nq none) (by simp)
          clear c1 c2
          generalize wr.drewN nq = wq at *
          go_wp2_with (first
            | (go_at_call 43; refine (htz _).mono ?_; rintro e wq ⟨rfl, hw⟩; subst hw)
            | (go_at_call 44; refine (hln _).mono ?_; rintro e wq ⟨rfl, hw⟩; subst hw))
          go_roundw
          case rel => exact ⟨k + 1, 8 * k + tz, 8 * k + (ln - 1), true, by omega, by go_num, congrArg (Value.int .i64) (by omega), rfl, by go_num, by simpa using hB2, hgq⟩
          case measure => simp [intOf]; omega
    · obtain rfl : k = n := by omega
      go_wp2
      exact bodyPost_ret (v := .tuple #[.int .i64 f, .int .i64 l, .bool a]) (by simp [results, Tryd.results25, go_sem]) rfl ⟨⟨f, l, a, rfl, hB⟩, hg⟩

end Go.Proofs.YtkfpgmpjimnleaaDoor
