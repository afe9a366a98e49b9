/-
  Files compared.
-/
import Derived.Test.YthkbakaodbceiaaQ1
namespace Go.Proofs.Ythkbakaodbceiaa
open Go.RowKit
set_option linter.unusedVariables false

theorem str_list (a b : ByteArray) : (a.toList = b.toList) = (a = b) := by
  apply propext
  rw [ByteArray.toList_eq, ByteArray.toList_eq]
  constructor
  · intro h
    cases a; cases b
    simp only [ByteArray.mk.injEq]
    exact Array.toList_inj.1 h
  · rintro rfl; rfl
theorem eqIn101 (W : World) (a b c d : ByteArray) (i j : Int) (p q r s : Bool) : (Op.equalIn 10000 101 (.agg #[.string a, .string b, .int .i64 i, .bool p, .bool r]) (.agg #[.string c, .string d, .int .i64 j, .bool q, .bool s])).run Try.prog W = .ok (decide (a = c) && (decide (b = d) && (decide (i = j) && ((p == q) && (r == s))))) W := by
  have u9 := Try.underlying9
  have u3 := Try.underlying3
  have u4 := Try.underlying4
  rw [show (10000 : Nat) = 9999 + 1 from rfl, Op.equalIn]
  simp only [Sem.run_bind, run_underlying Try.underlying101, Result.andThen_ok]
  go_simp
  simp only [str_list]
  by_cases e1 : a = c
  · by_cases e2 : b = d
    · by_cases e3 : i = j
      · cases p <;> cases q <;> cases r <;> cases s <;> simp [e1, e2, e3]
      · simp [e1, e2, e3]
    · simp [e1, e2]
  · simp [e1]
theorem eqIn55 (W : World) (a c : ByteArray) (b d i j : Int) (p q r s : Bool) : (Op.equalIn 10000 55 (.agg #[.string a, .int .i64 b, .int .i64 i, .bool p, .bool r]) (.agg #[.string c, .int .i64 d, .int .i64 j, .bool q, .bool s])).run Try.prog W = .ok (decide (a = c) && (decide (b = d) && (decide (i = j) && ((p == q) && (r == s))))) W := by
  have u9 := Try.underlying9
  have u3 := Try.underlying3
  have u4 := Try.underlying4
  rw [show (10000 : Nat) = 9999 + 1 from rfl, Op.equalIn]
  simp only [Sem.run_bind, run_underlying Try.underlying55, Result.andThen_ok]
  go_simp
  simp only [str_list]
  by_cases e1 : a = c
  · by_cases e2 : b = d
    · by_cases e3 : i = j
      · cases p <;> cases q <;> cases r <;> cases s <;> simp [e1, e2, e3]
      · simp [e1, e2, e3]
    · simp [e1, e2]
  · simp [e1]
theorem ne101 (W : World) (a b c d : ByteArray) (i j : Int) (p q r s : Bool) : (binOp .neq 101 (.agg #[.string a, .string b, .int .i64 i, .bool p, .bool r]) (.agg #[.string c, .string d, .int .i64 j, .bool q, .bool s])).run Try.prog W = .ok (.bool (!(decide (a = c) && (decide (b = d) && (decide (i = j) && ((p == q) && (r == s))))))) W := by
  simp only [binOp]
  simp [show (Op.equal 101 (.agg #[.string a, .string b, .int .i64 i, .bool p, .bool r]) (.agg #[.string c, .string d, .int .i64 j, .bool q, .bool s])).run Try.prog W = _ from eqIn101 W a b c d i j p q r s]
theorem ne55 (W : World) (a c : ByteArray) (b d i j : Int) (p q r s : Bool) : (binOp .neq 55 (.agg #[.string a, .int .i64 b, .int .i64 i, .bool p, .bool r]) (.agg #[.string c, .int .i64 d, .int .i64 j, .bool q, .bool s])).run Try.prog W = .ok (.bool (!(decide (a = c) && (decide (b = d) && (decide (i = j) && ((p == q) && (r == s))))))) W := by
  simp only [binOp]
  simp [show (Op.equal 55 (.agg #[.string a, .int .i64 b, .int .i64 i, .bool p, .bool r]) (.agg #[.string c, .int .i64 d, .int .i64 j, .bool q, .bool s])).run Try.prog W = _ from eqIn55 W a c b d i j p q r s]

theorem rf_eq (a b : Rf) : (decide (a.s = b.s) && (decide ((⟨a.bs.toArray⟩ : ByteArray) = ⟨b.bs.toArray⟩) && (decide ((a.la : Int) = (b.la : Int)) && ((a.th == b.th) && (a.nl == b.nl))))) = true ↔ a = b := by
  constructor
  · intro h
    simp only [Bool.and_eq_true, decide_eq_true_eq, beq_iff_eq] at h
    obtain ⟨h1, h2, h3, h4, h5⟩ := h
    cases a; cases b
    simp only [Rf.mk.injEq]
    refine ⟨h1, ?_, by simp only at h3; omega, h4, h5⟩
    injection h2 with h2
    exact List.toArray_inj h2
  · rintro rfl
    simp

section
variable {w w' : World} {T T' : Nat → Prop} {ra rb : Nat} {L K : List Rf} {fs fs' : List (Int × Int)} {st st' : Int}

set_option maxRecDepth 100000 in
set_option maxHeartbeats 2000000 in
theorem same_r (h : Rv w T ra L fs st) (h' : Rv w T' rb K fs' st') (hl : L.length ≤ 4000) (hk : K.length ≤ 4000) : Calls Try.prog 37 #[.pointer (some ⟨ra, 0, none⟩), .pointer (some ⟨rb, 0, none⟩)] w fun e w' => ∃ b, e = .returned (.bool b) ∧ (b = true ↔ L = K) ∧ w.grownBy w' none := by
  obtain ⟨ao, ac, fo, fn, fc, c0, _, _, _, hr, _⟩ := h.cells
  obtain ⟨bo, bc, fo', fn', fc', d0, _, _, _, hr', _⟩ := h'.cells
  by_cases hll : L.length = K.length
  · have e1 : ((L.length : Int) != (K.length : Int)) = false := by simp; omega
    have e1n : (L.length != K.length) = false := by simp; omega
    have hne := ne101
    go_enter Try.func37, Try.ntmps37
    go_wp2_with fail
    go_quiet (fail)
    have hgq := grown_drewN w nq none
    replace c0 := hgq.cell c0 (by simp)
    replace d0 := hgq.cell d0 (by simp)
    have HR : Hid _ := hr.own hgq (fun r e => by cases e)
    have HR' : Hid _ := hr'.own hgq (fun r e => by cases e)
    have HGQ : Hid _ := hgq
    have HL : Hid _ := hll
    clear hr hr' h h' hgq e1 e1n
    generalize w.drewN nq = w1 at *
    clear hll
    go_wp2_with fail
    go_loopw [5] (fun i' wr => ∃ i : Nat, i' = .int .i64 i ∧ i ≤ L.length ∧ w1.grownBy wr none ∧ Hid (L.take i = K.take i)) (fun i' _ => L.length - (intOf i').toNat)
    case atStart => exact ⟨0, rfl, Nat.zero_le _, grown_refl _ _, (show L.take 0 = K.take 0 by simp)⟩
    case round =>
      obtain ⟨i, rfl, hi, hgw, htk⟩ := hrel
      have c0r := hgw.cell c0 (by simp)
      have d0r := hgw.cell d0 (by simp)
      have hrr := HR.out.own hgw (fun r e => by cases e)
      have hrr' := HR'.out.own hgw (fun r e => by cases e)
      have hll := HL.out
      by_cases hlt : i < L.length
      · have dl : decide ((i : Int) < (L.length : Int)) = true := by simp; omega
        have dl2 : decide (i < L.length) = true := by simpa using hlt
        obtain ⟨f, hf⟩ : ∃ f, L[i]? = some f := ⟨_, List.getElem?_eq_getElem hlt⟩
        obtain ⟨f', hf'⟩ : ∃ f, K[i]? = some f := ⟨_, List.getElem?_eq_getElem (by omega)⟩
        obtain ⟨g, rfl, _, _⟩ := hrr.addr (by omega)
        obtain ⟨g', rfl, _, _⟩ := hrr'.addr (by omega)
        have q0 := hrr.at hf 0 (by decide)
        have q1 := hrr.at hf 1 (by decide)
        have q2 := hrr.at hf 2 (by decide)
        have q3 := hrr.at hf 3 (by decide)
        have q4 := hrr.at hf 4 (by decide)
        have p0 := hrr'.at hf' 0 (by decide)
        have p1 := hrr'.at hf' 1 (by decide)
        have p2 := hrr'.at hf' 2 (by decide)
        have p3 := hrr'.at hf' 3 (by decide)
        have p4 := hrr'.at hf' 4 (by decide)
        simp only [Rf.cells, List.getElem?_cons_zero, List.getElem?_cons_succ, Nat.add_zero] at q0 q1 q2 q3 q4 p0 p1 p2 p3 p4
        have i1 : (0 : Int) ≤ (i : Int) := by omega
        have i2 : (i : Int) < (L.length : Int) := by omega
        have i3 : (i : Int) < (K.length : Int) := by omega
        have wz : IntKind.i64.wrap ((i : Int) + 1) = ((i + 1 : Nat) : Int) := by rw [IntWalk.i64_in _ (by omega)]; push_cast; rfl
        have hq := rf_eq f f'
        have hneW := hne
        clear hrr hrr' hll
        obtain ⟨bb, hbb⟩ : ∃ bb, (decide (f.s = f'.s) && (decide ((⟨f.bs.toArray⟩ : ByteArray) = ⟨f'.bs.toArray⟩) && (decide ((f.la : Int) = (f'.la : Int)) && ((f.th == f'.th) && (f.nl == f'.nl))))) = bb := ⟨_, rfl⟩
        have hn2 := fun W => hne W f.s ⟨f.bs.toArray⟩ f'.s ⟨f'.bs.toArray⟩ (f.la : Int) (f'.la : Int) f.th f'.th f.nl f'.nl
        simp only [hbb] at hn2 hq
        clear hne hneW hbb
        cases bb with
        | true =>
          have hff : f = f' := hq.1 rfl
          have htk2 : Hid (L.take (i + 1) = K.take (i + 1)) := (by show _ = _; rw [List.take_add_one, List.take_add_one, hf, hf', htk.out, hff])
          clear hq hf hf' htk hff
          go_wp2_with fail
          go_quiet (fail)
          have hgq2 := grown_drewN wr nq none
          have hgw2 := grown_trans hgw hgq2 (by simp)
          go_wp2
          go_roundw
          case rel => exact ⟨i + 1, by first | rfl | simp, by omega, hgw2, htk2⟩
          case measure => simp [intOf]; omega
        | false =>
          have hfn : Hid (¬ L = K) := fun e => by
            have : f = f' := by rw [e, hf'] at hf; simpa using hf.symm
            have := hq.2 this
            cases this
          clear hq hf hf' htk
          go_wp2_with fail
          go_quiet (fail)
          have hgq2 := grown_drewN wr nq none
          have hgw2 := grown_trans (grown_trans HGQ.out hgw (by simp)) hgq2 (by simp)
          go_wp2
          go_ret
          exact ⟨false, rfl, by simpa using hfn.out, hgw2⟩
      · obtain rfl : i = L.length := by omega
        have dl : decide ((L.length : Int) < (L.length : Int)) = false := by simp
        have hLK : Hid (L = K) := (by have h9 := htk.out; rw [List.take_of_length_le (Nat.le_refl _), List.take_of_length_le (by omega)] at h9; exact h9)
        have hgw2 := grown_trans HGQ.out hgw (by simp)
        clear hrr hrr' htk hll
        go_wp2
        go_ret
        exact ⟨true, rfl, by simpa using hLK.out, hgw2⟩
  · have e1 : ((L.length : Int) != (K.length : Int)) = true := by simp; omega
    have e1n : (L.length != K.length) = true := by simp; omega
    have hfn : Hid (¬ L = K) := fun e => hll (by rw [e])
    clear hr hr' h h' hll
    go_enter Try.func37, Try.ntmps37
    go_wp2_with fail
    go_quiet (fail)
    have hgq := grown_drewN w nq none
    go_wp2
    go_ret
    exact ⟨false, rfl, by simpa using hfn.out, hgq⟩
end
end Go.Proofs.Ythkbakaodbceiaa
