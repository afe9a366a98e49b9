/-
  An odd number and a power read: the walk.
-/
import Derived.Test.YtmjcjcpifahpaaaDoorH2
namespace Go.Proofs.YtmjcjcpifahpaaaDoor
open Go.RowKit Go.Shelf Go.Sort Go.Lib
set_option linter.unusedVariables false

/-- What is told of what was read. -/
def rdpV : Option (Nat × Int) → Value
  | some (m, e) => .tuple #[.int .u64 m, .int .i64 e, .bool true]
  | none => .tuple #[.int .u64 0, .int .i64 0, .bool false]

def slen : Value → Nat
  | .string s => s.size
  | _ => 0
def mu (a : Act) (w : World) : Nat := slen (a.tmps.getD 0 undef)

def J0 (w0 : World) (L : List UInt8) (a : Act) (w : World) : Prop :=
  ∃ x0 x1 x2 x3 x4 x5 x6 rest, a = { tmps := (x0 :: x1 :: x2 :: x3 :: x4 :: x5 :: x6 :: rest).toArray, defers := [] } ∧ rest.length = 58 ∧ w = w0 ∧ Hid (rdp L = none)
def J1 (w0 : World) (L : List UInt8) (a : Act) (w : World) : Prop :=
  ∃ (x1 : Value) (m d : Nat) (c : UInt8) (l : List UInt8) (rest : List Value), a = { tmps := (.string (str (c :: l)) :: x1 :: .int .u64 m :: .int .i64 0 :: .bool false :: .bool false :: .int .i64 (d : Int) :: rest).toArray, defers := [] } ∧ rest.length = 58 ∧ w = w0 ∧
    Hid (c.toNat = 48 + d) ∧ d ≤ 9 ∧ m < 9007199254740992 ∧ (c :: l).length ≤ 9223372036854775807 ∧ Hid (rd1 m (c :: l) = rdp L)
def J2 (w0 : World) (L : List UInt8) (a : Act) (w : World) : Prop :=
  ∃ (x1 : Value) (m e d : Nat) (neg : Bool) (c : UInt8) (l : List UInt8) (rest : List Value), a = { tmps := (.string (str (c :: l)) :: x1 :: .int .u64 m :: .int .i64 e :: .bool true :: .bool neg :: .int .i64 (d : Int) :: rest).toArray, defers := [] } ∧ rest.length = 58 ∧ w = w0 ∧
    Hid (c.toNat = 48 + d) ∧ d ≤ 9 ∧ e < 1075 ∧ m < 9007199254740992 ∧ (c :: l).length ≤ 9223372036854775807 ∧ Hid (rd4 m neg e (c :: l) = rdp L)

theorem jret {J : Nat → Act → World → Prop} {Q : Exit → Act → World → Prop} {a : Act} {w : World} (h : Q .ret a w) : jumps J Q .ret a w := h

theorem rd4_over {m : Nat} {neg : Bool} {e : Nat} {c : UInt8} {l : List UInt8} {d : Nat} (h1 : c.toNat = 48 + d) (h2 : d ≤ 9) (h : 1074 < 10 * (e : Int) + (d : Int)) : rd4 m neg e (c :: l) = none := by
  have hd : dv c = true := by unfold dv; simp; omega
  have : num 1075 e (c :: l) = none := by
    unfold num
    rw [if_pos hd, if_neg (by omega)]
  unfold rd4
  rw [this]
theorem rd4_step {m : Nat} {neg : Bool} {e : Nat} {c : UInt8} {l : List UInt8} {d : Nat} (h1 : c.toNat = 48 + d) (h2 : d ≤ 9) (h : 10 * (e : Int) + (d : Int) ≤ 1074) : rd4 m neg e (c :: l) = rd4 m neg (10 * e + d) l := by
  have hd : dv c = true := by unfold dv; simp; omega
  have : num 1075 e (c :: l) = num 1075 (10 * e + d) l := by
    rw [num, if_pos hd, if_pos (by omega), show c.toNat - 48 = d by omega]
  unfold rd4
  rw [this]
theorem rd4_end (m : Nat) (neg : Bool) (e : Nat) : rd4 m neg e [] = some (m, if neg then -(e : Int) else (e : Int)) := rfl
theorem rd4_stop {m : Nat} {neg : Bool} {e : Nat} {c : UInt8} {l : List UInt8} (h : dv c = false) : rd4 m neg e (c :: l) = none := by
  have : num 1075 e (c :: l) = some (e, c :: l) := by
    unfold num
    rw [if_neg (by simp [h])]
  unfold rd4
  rw [this]
theorem dv_yes {c : UInt8} (h : dv c = true) : 48 ≤ (c.toNat : Int) ∧ (c.toNat : Int) ≤ 57 := by unfold dv at h; simp at h; omega
theorem dgt_dv {c : UInt8} {l : List UInt8} (h : dv c = true) : dgt (c :: l) = (c.toNat : Int) - 48 := by simp [dgt, h]
theorem dgt_ndv {c : UInt8} {l : List UInt8} (h : dv c = false) : dgt (c :: l) = -1 := by simp [dgt, h]

theorem rd1_over {m : Nat} {c : UInt8} {l : List UInt8} {d : Nat} (h1 : c.toNat = 48 + d) (h2 : d ≤ 9) {m2 : Nat} (hm : 10 * (m : Int) + (d : Int) = (m2 : Int)) (h : ¬ m2 < 9007199254740992) : rd1 m (c :: l) = none := by
  have hd : dv c = true := by unfold dv; simp; omega
  have : num 9007199254740992 m (c :: l) = none := by
    unfold num
    rw [if_pos hd, if_neg (by omega)]
  unfold rd1
  rw [this]
theorem rd1_step {m : Nat} {c : UInt8} {l : List UInt8} {d : Nat} (h1 : c.toNat = 48 + d) (h2 : d ≤ 9) {m2 : Nat} (hm : 10 * (m : Int) + (d : Int) = (m2 : Int)) (h : m2 < 9007199254740992) : rd1 m (c :: l) = rd1 m2 l := by
  have hd : dv c = true := by unfold dv; simp; omega
  have e : 10 * m + (c.toNat - 48) = m2 := by omega
  have : num 9007199254740992 m (c :: l) = num 9007199254740992 m2 l := by
    rw [num, if_pos hd, if_pos (by omega), e]
  unfold rd1
  rw [this]
theorem rd1_stop {m : Nat} {l : List UInt8} (h : nodig l) : rd1 m l = rd2 m l := by
  have : num 9007199254740992 m l = some (m, l) := by
    cases l with
    | nil => rfl
    | cons c l =>
      unfold num
      rw [if_neg (by simp [h c l rfl])]
  unfold rd1
  rw [this]
theorem dgt_nodig {l : List UInt8} (h : nodig l) : dgt l = -1 := by
  cases l with
  | nil => rfl
  | cons c l => exact dgt_ndv (h c l rfl)
theorem rd2_even {m : Nat} {l : List UInt8} (h : m % 2 = 0) : rd2 m l = none := by unfold rd2; rw [if_pos h]
theorem rd2_p0 {m : Nat} (h : ¬ m % 2 = 0) : rd2 m [112, 48] = some (m, 0) := by unfold rd2; rw [if_neg h, if_pos rfl]
theorem rd2_no {m : Nat} {l s2 : List UInt8} (h : ¬ m % 2 = 0) (h2 : l ≠ [112, 48]) (hc : cut 112 l = (s2, false)) : rd2 m l = none := by unfold rd2; rw [if_neg h, if_neg h2, hc]
theorem rd2_yes {m : Nat} {l s2 s3 : List UInt8} {neg : Bool} (h : ¬ m % 2 = 0) (h2 : l ≠ [112, 48]) (hc : cut 112 l = (s2, true)) (hc3 : cut 45 s2 = (s3, neg)) : rd2 m l = rd3 m neg s3 := by unfold rd2; rw [if_neg h, if_neg h2, hc]; simp only [hc3]
theorem rd3_big {m : Nat} {neg : Bool} {c : UInt8} {l : List UInt8} (h : big c = true) : rd3 m neg (c :: l) = rd4 m neg 0 (c :: l) := by simp [rd3, h]
theorem rd3_not {m : Nat} {neg : Bool} {c : UInt8} {l : List UInt8} (h : big c = false) : rd3 m neg (c :: l) = none := by simp [rd3, h]
theorem big_yes {c : UInt8} (h : big c = true) : 49 ≤ (c.toNat : Int) ∧ (c.toNat : Int) ≤ 57 := by unfold big at h; simp at h; omega
theorem dgt_big {c : UInt8} {l : List UInt8} (h : big c = true) : dgt (c :: l) = (c.toNat : Int) - 48 := dgt_dv (big_dv h)
theorem dgt_notbig {c : UInt8} {l : List UInt8} (h : big c = false) : dgt (c :: l) < 1 := by
  cases hd : dv c with
  | false => rw [dgt_ndv hd]; omega
  | true =>
    rw [dgt_dv hd]
    have := dv_yes hd
    unfold big at h
    simp at h
    omega
theorem dgt_some {c : UInt8} {l : List UInt8} (h : dv c = true) : ∃ d : Nat, Hid (c.toNat = 48 + d) ∧ d ≤ 9 ∧ Hid (dgt (c :: l) = (d : Int)) := by
  have := dv_yes h
  refine ⟨c.toNat - 48, (show _ = _ by omega), by omega, (show _ = _ by rw [dgt_dv h]; omega)⟩
theorem dgt_top {c : UInt8} {l : List UInt8} (h : big c = true) : ∃ d : Nat, Hid (c.toNat = 48 + d) ∧ 1 ≤ d ∧ d ≤ 9 ∧ Hid (dgt (c :: l) = (d : Int)) := by
  have := big_yes h
  refine ⟨c.toNat - 48, (show _ = _ by omega), by omega, by omega, (show _ = _ by rw [dgt_big h]; omega)⟩
theorem cut_len (p : UInt8) (l : List UInt8) : (cut p l).1.length ≤ l.length := by
  cases l with
  | nil => simp [cut]
  | cons c l => simp only [cut]; split <;> simp
theorem and_one {m : Nat} (h : m < 9007199254740992) : bits .and .u64 (m : Int) 1 = ((m % 2 : Nat) : Int) := by
  have h1 := and64 1 (rfl : (m : Int) = (m : Int)) (show (1 : Int) = ((1 : Nat) : Int) from rfl) (by omega) (by omega)
  rw [h1, Nat.and_one_is_mod]
theorem cut_gen (W : World) (p : UInt8) (l : List UInt8) (hl : l.length ≤ 9223372036854775807) : Calls Tryd.prog 34 #[.string (str l), .string ⟨#[p]⟩] W fun e w' => e = .returned (.tuple #[.string (str (cut p l).1), .bool (cut p l).2]) ∧ w' = W := cut_any W p l hl

set_option maxRecDepth 100000 in
set_option maxHeartbeats 4000000 in
theorem rp_any (w : World) (L : List UInt8) (hL : L.length ≤ 9223372036854775807) : Calls Tryd.prog 54 #[.string (str L)] w fun e w' => e = .returned (rdpV (rdp L)) ∧ w' = w := by
  go_enter Tryd.func54, Tryd.ntmps54
  go_wp2
  refine wp_scope_three (J0 w L) (J1 w L) (J2 w L) mu rfl rfl rfl ?_ ?_ ?_ ?_
  · rintro a w' ⟨x0, x1, x2, x3, x4, x5, x6, rest, rfl, hr, rfl, hz⟩
    obtain ⟨v0, v1, v2, v3, v4, v5, v6, v7, v8, v9, v10, v11, v12, v13, v14, v15, v16, v17, v18, v19, v20, v21, v22, v23, v24, v25, v26, v27, v28, v29, v30, v31, v32, v33, v34, v35, v36, v37, v38, v39, v40, v41, v42, v43, v44, v45, v46, v47, v48, v49, v50, v51, v52, v53, v54, v55, v56, v57, rfl⟩ := rest_58 hr
    go_wp2
    refine jret ?_
    exact bodyPost_ret (v := .tuple #[.int .u64 0, .int .i64 0, .bool false]) (by simp [results, Tryd.results54, go_sem]) rfl ⟨by rw [hz.out]; rfl, rfl⟩
  · rintro a w' ⟨x1, m, e, d, neg, c, l, rest, rfl, hr, rfl, hc, hd9, he, hm, hl, hz⟩
    obtain ⟨v0, v1, v2, v3, v4, v5, v6, v7, v8, v9, v10, v11, v12, v13, v14, v15, v16, v17, v18, v19, v20, v21, v22, v23, v24, v25, v26, v27, v28, v29, v30, v31, v32, v33, v34, v35, v36, v37, v38, v39, v40, v41, v42, v43, v44, v45, v46, v47, v48, v49, v50, v51, v52, v53, v54, v55, v56, v57, rfl⟩ := rest_58 hr
    clear hr
    have hx := str_tail c l
    have hpos : 1 ≤ ((str (c :: l)).size : Int) := by rw [str_size]; simp; omega
    have hmu : mu { tmps := (.string (str (c :: l)) :: x1 :: .int .u64 m :: .int .i64 e :: .bool true :: .bool neg :: .int .i64 (d : Int) :: [v0, v1, v2, v3, v4, v5, v6, v7, v8, v9, v10, v11, v12, v13, v14, v15, v16, v17, v18, v19, v20, v21, v22, v23, v24, v25, v26, v27, v28, v29, v30, v31, v32, v33, v34, v35, v36, v37, v38, v39, v40, v41, v42, v43, v44, v45, v46, v47, v48, v49, v50, v51, v52, v53, v54, v55, v56, v57]).toArray, defers := [] } w' = l.length + 1 := by
      show (str (c :: l)).size = _
      rw [str_size]; rfl
    rw [hmu]
    clear hmu
    by_cases hlim : 10 * (e : Int) + (d : Int) ≤ 1074
    · obtain ⟨e2, he2⟩ : ∃ e2 : Nat, e2 = 10 * e + d := ⟨_, rfl⟩
      have hz2 : Hid (rd4 m neg e2 l = rdp L) := by show _ = _; rw [← hz.out, rd4_step hc.out hd9 hlim, he2]
      have he3 : 10 * (e : Int) + (d : Int) = (e2 : Int) := by omega
      have he4 : e2 < 1075 := by omega
      clear hz he2
      cases l with
      | nil =>
        have hd : dgt [] = -1 := rfl
        have hs := str_toList []
        cases neg with
        | false =>
          go_wp2_with (go_at_call 67; refine (digit_any _ _).mono ?_; rintro e w1 ⟨rfl, rfl⟩)
          refine jret ?_
          exact bodyPost_ret (v := .tuple #[.int .u64 m, .int .i64 e2, .bool true]) (by simp [results, Tryd.results54, go_sem]) rfl ⟨by rw [← hz2.out, rd4_end]; rfl, rfl⟩
        | true =>
          go_wp2_with (go_at_call 67; refine (digit_any _ _).mono ?_; rintro e w1 ⟨rfl, rfl⟩)
          refine jret ?_
          exact bodyPost_ret (v := .tuple #[.int .u64 m, .int .i64 (-(e2 : Int)), .bool true]) (by simp [results, Tryd.results54, go_sem]) rfl ⟨by rw [← hz2.out, rd4_end]; rfl, rfl⟩
      | cons c2 l2 =>
        have hs := str_toList (c2 :: l2)
        cases hdv : dv c2 with
        | true =>
          obtain ⟨d2, hc3, hd3, hdH⟩ := dgt_some (l := l2) hdv
          have hd := hdH.out
          clear hdH
          go_wp2_with (go_at_call 67; refine (digit_any _ _).mono ?_; rintro e w1 ⟨rfl, rfl⟩)
          go_step3
          refine ⟨⟨_, m, e2, d2, neg, c2, l2, _, rfl, rfl, rfl, hc3, hd3, he4, hm, by simp at hl ⊢; omega, hz2⟩, ?_⟩
          show (str (c2 :: l2)).size < _
          rw [str_size]; simp
        | false =>
          have hd : dgt (c2 :: l2) = -1 := dgt_ndv hdv
          go_wp2_with (go_at_call 67; refine (digit_any _ _).mono ?_; rintro e w1 ⟨rfl, rfl⟩)
          go_step3
          exact ⟨_, _, _, _, _, _, _, _, rfl, rfl, rfl, by show _ = _; rw [← hz2.out]; exact rd4_stop hdv⟩
    · go_wp2
      go_step3
      exact ⟨_, _, _, _, _, _, _, _, rfl, rfl, rfl, by show _ = _; rw [← hz.out]; exact rd4_over hc.out hd9 (by omega)⟩
  · intro H2
    rintro a w' ⟨x1, m, d, c, l, rest, rfl, hr, rfl, hc, hd9, hm, hl, hz⟩
    obtain ⟨v0, v1, v2, v3, v4, v5, v6, v7, v8, v9, v10, v11, v12, v13, v14, v15, v16, v17, v18, v19, v20, v21, v22, v23, v24, v25, v26, v27, v28, v29, v30, v31, v32, v33, v34, v35, v36, v37, v38, v39, v40, v41, v42, v43, v44, v45, v46, v47, v48, v49, v50, v51, v52, v53, v54, v55, v56, v57, rfl⟩ := rest_58 hr
    clear hr
    have hx := str_tail c l
    have hpos : 1 ≤ ((str (c :: l)).size : Int) := by rw [str_size]; simp; omega
    have hmu : mu { tmps := (.string (str (c :: l)) :: x1 :: .int .u64 m :: .int .i64 0 :: .bool false :: .bool false :: .int .i64 (d : Int) :: [v0, v1, v2, v3, v4, v5, v6, v7, v8, v9, v10, v11, v12, v13, v14, v15, v16, v17, v18, v19, v20, v21, v22, v23, v24, v25, v26, v27, v28, v29, v30, v31, v32, v33, v34, v35, v36, v37, v38, v39, v40, v41, v42, v43, v44, v45, v46, v47, v48, v49, v50, v51, v52, v53, v54, v55, v56, v57]).toArray, defers := [] } w' = l.length + 1 := by
      show (str (c :: l)).size = _
      rw [str_size]; rfl
    rw [hmu]
    clear hmu
    obtain ⟨m2, hm2⟩ : ∃ m2 : Nat, m2 = 10 * m + d := ⟨_, rfl⟩
    have hsum : 10 * (m : Int) + (d : Int) = (m2 : Int) := by omega
    have hcv : IntKind.u64.wrap (d : Int) = (d : Int) := u64_nat (by omega)
    clear hm2
    by_cases hlim : m2 < 9007199254740992
    · have hz2 : Hid (rd1 m2 l = rdp L) := by show _ = _; rw [← hz.out, rd1_step hc.out hd9 hsum hlim]
      have hq1 : decide ((9007199254740992 : Int) ≤ (m2 : Int)) = false := by simp; omega
      have hb := and_one hlim
      have HLIM : Hid (m2 < 9007199254740992) := hlim
      clear hz hlim
      by_cases hyes : ∃ c2 l2, l = c2 :: l2 ∧ dv c2 = true
      · obtain ⟨c2, l2, rfl, hdv⟩ := hyes
        obtain ⟨d2, hc3, hd3, hdH⟩ := dgt_some (l := l2) hdv
        have hd := hdH.out
        clear hdH
        clear H2
        go_wp2_with (go_at_call 67; refine (digit_any _ _).mono ?_; rintro e w1 ⟨rfl, rfl⟩)
        go_step3
        refine ⟨⟨_, m2, d2, c2, l2, _, rfl, rfl, rfl, hc3, hd3, HLIM.out, by simp at hl ⊢; omega, hz2⟩, ?_⟩
        show (str (c2 :: l2)).size < _
        rw [str_size]; simp
      · have hnd : nodig l := fun c2 l2 e => by
          cases hv : dv c2 with
          | false => rfl
          | true => exact (hyes ⟨c2, l2, e, hv⟩).elim
        have hd : dgt l = -1 := dgt_nodig hnd
        have hz3 : Hid (rd2 m2 l = rdp L) := by show _ = _; rw [← hz2.out, rd1_stop hnd]
        clear hz2 hyes hnd
        by_cases hev : m2 % 2 = 0
        · rw [hev] at hb
          clear H2
          go_wp2_with (go_at_call 67; refine (digit_any _ _).mono ?_; rintro e w1 ⟨rfl, rfl⟩)
          go_step3
          exact ⟨_, _, _, _, _, _, _, _, rfl, rfl, rfl, by show _ = _; rw [← hz3.out]; exact rd2_even hev⟩
        · rw [show m2 % 2 = 1 by omega] at hb
          have HEV : Hid (¬ m2 % 2 = 0) := hev
          clear hev
          have hs := str_toList l
          by_cases hp0 : l = [112, 48]
          · have hz4 : Hid (rdp L = some (m2, 0)) := by show _ = _; rw [← hz3.out, hp0, rd2_p0 HEV.out]
            have hq : (l == [112, 48]) = true := by simpa using hp0
            clear H2 hz3 hp0
            go_wp2_with (go_at_call 67; refine (digit_any _ _).mono ?_; rintro e w1 ⟨rfl, rfl⟩)
            refine jret ?_
            exact bodyPost_ret (v := .tuple #[.int .u64 m2, .int .i64 0, .bool true]) (by simp [results, Tryd.results54, go_sem]) rfl ⟨by rw [hz4.out]; rfl, rfl⟩
          · have hq : (l == [112, 48]) = false := by simpa using hp0
            have HP : Hid (l ≠ [112, 48]) := hp0
            clear hp0
            have hll : l.length ≤ 9223372036854775806 := by simp at hl; omega
            have hcl := cut_len 112 l
            cases hcut : cut 112 l with
            | mk s2 b2 =>
              rw [hcut] at hcl
              have ca1 : (cut 112 l).1 = s2 := by rw [hcut]
              have ca2 : (cut 112 l).2 = b2 := by rw [hcut]
              have HC : Hid (cut 112 l = (s2, b2)) := hcut
              clear hcut
              cases b2 with
              | false =>
                clear H2
                go_wp2_with (first
                  | (go_at_call 67; refine (digit_any _ _).mono ?_; rintro e w1 ⟨rfl, rfl⟩)
                  | (go_at_call 34; refine (cut_gen _ _ _ (by omega)).mono ?_; rintro e w1 ⟨rfl, rfl⟩))
                go_step3
                exact ⟨_, _, _, _, _, _, _, _, rfl, rfl, rfl, by show _ = _; rw [← hz3.out]; exact rd2_no HEV.out HP.out HC.out⟩
              | true =>
                have hcl3 := cut_len 45 s2
                cases hcut3 : cut 45 s2 with
                | mk s3 neg =>
                  rw [hcut3] at hcl3
                  have cb1 : (cut 45 s2).1 = s3 := by rw [hcut3]
                  have cb2 : (cut 45 s2).2 = neg := by rw [hcut3]
                  have hl2 : s2.length ≤ 9223372036854775807 := by simp at hcl; omega
                  have hz4 : Hid (rd3 m2 neg s3 = rdp L) := by show _ = _; rw [← hz3.out, rd2_yes HEV.out HP.out HC.out hcut3]
                  have hl3 : s3.length ≤ 9223372036854775806 := by simp at hcl hcl3; omega
                  have hl3' : s3.length ≤ l.length := by simp at hcl hcl3; omega
                  clear hcut3 hcl hcl3 hz3
                  by_cases hbig : ∃ c3 l3, s3 = c3 :: l3 ∧ big c3 = true
                  · obtain ⟨c3, l3, rfl, hb3⟩ := hbig
                    obtain ⟨d3, hc3, hd1, hd9', hdH⟩ := dgt_top (l := l3) hb3
                    have hd3 := hdH.out
                    clear hdH
                    have hz5 : Hid (rd4 m2 neg 0 (c3 :: l3) = rdp L) := by show _ = _; rw [← hz4.out, rd3_big hb3]
                    have HH2 : Hid (∀ a w, J2 w' L a w → _) := H2
                    clear H2
                    go_wp2_with (first
                      | (go_at_call 67; refine (digit_any _ _).mono ?_; rintro e w1 ⟨rfl, rfl⟩)
                      | (go_at_call 34; refine (cut_gen _ _ _ (by first | exact hl2 | omega)).mono ?_; rintro e w1 ⟨rfl, rfl⟩))
                    go_step3
                    simp only [Exit.then]
                    apply_assumption
                    refine Code.wp_mono (post2_mono ?_) (HH2.out _ _ ⟨_, m2, 0, d3, neg, c3, l3, _, rfl, rfl, rfl, hc3, hd9', by omega, HLIM.out, by omega, hz5⟩)
                    show (str (c3 :: l3)).size ≤ _
                    rw [str_size]; omega
                  · have hsm : dgt s3 < 1 := by
                      cases s3 with
                      | nil => decide
                      | cons c3 l3 =>
                        cases hv : big c3 with
                        | true => exact (hbig ⟨c3, l3, rfl, hv⟩).elim
                        | false => exact dgt_notbig hv
                    have hz5 : Hid (rdp L = none) := by
                      show _ = _
                      rw [← hz4.out]
                      cases s3 with
                      | nil => rfl
                      | cons c3 l3 =>
                        cases hv : big c3 with
                        | true => exact (hbig ⟨c3, l3, rfl, hv⟩).elim
                        | false => exact rd3_not hv
                    clear H2 hbig hz4
                    go_wp2_with (first
                      | (go_at_call 67; refine (digit_any _ _).mono ?_; rintro e w1 ⟨rfl, rfl⟩)
                      | (go_at_call 34; refine (cut_gen _ _ _ (by first | exact hl2 | omega)).mono ?_; rintro e w1 ⟨rfl, rfl⟩))
                    go_step3
                    exact ⟨_, _, _, _, _, _, _, _, rfl, rfl, rfl, hz5⟩
    · have hq1 : decide ((9007199254740992 : Int) ≤ (m2 : Int)) = true := by simp; omega
      have HLIM : Hid (¬ m2 < 9007199254740992) := hlim
      have HS : Hid (10 * (m : Int) + (d : Int) = (m2 : Int)) := hsum
      clear H2 hlim
      go_wp2
      go_step3
      exact ⟨_, _, _, _, _, _, _, _, rfl, rfl, rfl, by show _ = _; rw [← hz.out]; exact rd1_over hc.out hd9 HS.out HLIM.out⟩
  · intro H1
    by_cases hbig : ∃ c l, L = c :: l ∧ big c = true
    · obtain ⟨c, l, rfl, hb⟩ := hbig
      obtain ⟨d, hc, hd1, hd9, hdH⟩ := dgt_top (l := l) hb
      have hd := hdH.out
      have hz : Hid (rd1 0 (c :: l) = rdp (c :: l)) := by show _ = _; simp [rdp, hb]
      have HH1 : Hid (∀ a w', J1 w (c :: l) a w' → _) := H1
      clear H1 hdH
      go_wp2_with (go_at_call 67; refine (digit_any _ _).mono ?_; rintro e w1 ⟨rfl, rfl⟩)
      go_step3
      simp only [Exit.then]
      apply_assumption
      exact Code.wp_mono post1_mono (HH1.out _ _ ⟨_, 0, d, c, l, _, rfl, rfl, rfl, hc, hd9, by omega, hL, hz⟩)
    · have hsm : dgt L < 1 := by
        cases L with
        | nil => decide
        | cons c l =>
          cases hv : big c with
          | true => exact (hbig ⟨c, l, rfl, hv⟩).elim
          | false => exact dgt_notbig hv
      have hz5 : Hid (rdp L = none) := by
        show _ = _
        cases L with
        | nil => rfl
        | cons c l =>
          cases hv : big c with
          | true => exact (hbig ⟨c, l, rfl, hv⟩).elim
          | false => simp [rdp, hv]
      clear H1 hbig
      go_wp2_with (go_at_call 67; refine (digit_any _ _).mono ?_; rintro e w1 ⟨rfl, rfl⟩)
      go_step3
      exact ⟨_, _, _, _, _, _, _, _, rfl, rfl, rfl, hz5⟩
end Go.Proofs.YtmjcjcpifahpaaaDoor
