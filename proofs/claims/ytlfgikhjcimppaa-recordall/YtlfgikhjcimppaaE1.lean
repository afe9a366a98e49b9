/-
  The document's numbers and sizes: number.
-/
import Derived.Test.YtlfgikhjcimppaaD9
namespace Go.Proofs.Ytlfgikhjcimppaa
open Go.RowKit
set_option linter.unusedVariables false


set_option maxRecDepth 100000 in
set_option maxHeartbeats 400000 in
theorem rnum_any (w : World) (X sz : Nat) (hX : X < 18446744073709551616) (hs : sz ≤ 8) :
    Calls Try.prog 43 #[.int .u64 X, .int .i64 sz] w fun e w' => ∃ ao' cap', e = .returned (.slice ao' sz cap') ∧ Ow w' w.heap.size 5 ao' sz cap' (low X sz) ∧ w.grownBy w' none := by
  go_enter Try.func43, Try.ntmps43
  go_wp2_with fail
  go_loopw [0, 5, 6] (fun x o i wr => ∃ (k : Nat) (ao' : Option Addr) (cap' y : Nat), k ≤ sz ∧ i = .int .i64 k ∧ x = .int .u64 y ∧ Hid (y = X / 256 ^ k) ∧ y < 18446744073709551616 ∧ o = .slice ao' k cap' ∧ Ow wr w.heap.size 5 ao' k cap' (low X k) ∧ Below w.heap.size w wr)
    (fun _ _ i _ => sz - (intOf i).toNat)
  case atStart => exact ⟨0, none, 0, X, Nat.zero_le _, rfl, rfl, (show X = X / 256 ^ 0 by simp), hX, rfl, Ow.nil _ _ _, Below.refl _ _⟩
  case round =>
    obtain ⟨k, ao1, cap1, y, hk, rfl, rfl, hy, hyl, rfl, ho1, hb1⟩ := hrel
    by_cases hlt : k < sz
    · have hbs := Bs.one wr (.int .u8 ((y : Int) % 256)) (UInt8.ofNat y) 5 (bv_mod y)
      have hwb : w.heap.size ≤ wr.heap.size := hb1.size
      go_wp2_with (at_builtin; refine wpList_append_bs _ rfl _ _ 31 rfl w.heap.size 5 Try.underlying31 Try.info5 rfl (ho1.grown (World.grownBy_alloc _ _ none)) rfl hbs (by omega) (by simp; omega) ?_)
      intro ao2 cap2 w2 ho2 hg2
      have hb2 : Below w.heap.size w w2 := (hb1.alloc hwb _).grown hg2 (by simp; omega) (fun k hk => (ho1.from_base k hk).1)
      clear hbs hg2 ho1 hb1
      go_wp2
      go_roundw
      case rel => exact ⟨k + 1, ao2, cap2, y / 256, hlt, by go_num, by go_num, low_step hy, by omega, rfl, by rw [low_succ, ← hy.out]; exact ho2, hb2⟩
      case measure => simp [intOf]; omega
    · obtain rfl : k = sz := by omega
      go_wp2
      go_ret
      exact ⟨_, _, rfl, ho1, below_grownBy hb1⟩
/-- How far the size has come: as it is, or past a million. -/
def Sz (l : List Rc) (i S : Nat) : Prop := S ≤ 4000000 ∧ (S = 20 + szs (l.take i) ∨ (1000000 < S ∧ 1000000 < 20 + szs (l.take i)))

set_option maxRecDepth 100000 in
set_option maxHeartbeats 2000000 in
theorem rfits_any (w : World) (ao : Option Addr) (n cap : Nat) (l : List Rc) (ha : Rs w ao n cap l) :
    Calls Try.prog 13 #[.slice ao n cap] w fun e w' => e = .returned (.tuple #[.int .i64 (fitsR l).1, .int .i64 (fitsR l).2]) ∧ w.grownBy w' none := by
  have hlen := ha.len
  have ht1 := Nat.le_trans ha.room ha.top
  by_cases h0 : n = 0
  · subst h0
    obtain rfl : l = [] := List.eq_nil_of_length_eq_zero hlen
    go_enter Try.func13, Try.ntmps13
    go_wp2
    go_ret2
    exact ⟨rfl, grown_refl _ _⟩
  have hz : ((n : Int) == 0) = false := by simp; omega
  have hnil : Hid (l ≠ []) := fun e => h0 (by rw [← hlen, e]; rfl)
  go_enter Try.func13, Try.ntmps13
  go_wp2_with fail
  go_loopw [4, 5, 6] (fun s' i' _ wr => ∃ (i S : Nat), i ≤ n ∧ i' = .int .i64 i ∧ s' = .int .i64 S ∧ S ≤ 4000000 ∧ Hid (Sz l i S) ∧ Hid ((l.take i).all mayR = true) ∧ w.grownBy wr none) (fun _ i' _ _ => n - (intOf i').toNat)
  case atStart => exact ⟨0, 20, Nat.zero_le _, rfl, rfl, by omega, (⟨by omega, Or.inl (by simp [szs])⟩ : Sz l 0 20), (by simp : (l.take 0).all mayR = true), grown_refl _ _⟩
  case round =>
    obtain ⟨i, S, hi, rfl, rfl, hS4, hS, hm, hg⟩ := hrel
    by_cases hlt : i < n
    · obtain ⟨b, o, rfl, hbl⟩ := ha.addr (by omega)
      have h1 : i < l.length := by omega
      obtain ⟨a1, a2, a3, ak⟩ := (ha.grown hg).at h1
      have hd : decide ((i : Int) < (n : Int)) = true := by simp; omega
      have hN : Hid (mayR l[i] = false → fitsR l = (0, 2)) := fitsR_no h1
      have hY : Hid (mayR l[i] = true → (l.take (i + 1)).all mayR = true) := fun h => by
        rw [List.take_succ_eq_append_getElem h1, List.all_append, hm.out]; simp [h]
      have hz2 : Hid (szs (l.take (i + 1)) = szs (l.take i) + (12 + (l[i]).kn + (l[i]).vn)) := szs_snoc h1
      have hbd : Hid (mayR l[i] = true → (l[i]).kn ≤ 256 ∧ (l[i]).vn ≤ 4096) := fun h => by
        unfold mayR mayB at h
        simp at h
        omega
      clear hm
      generalize l[i] = x at *
      go_wp2_with fail
      refine (rmay_any _ x ak).mono ?_
      rintro e w2 ⟨rfl, hg2⟩
      have hG2 := grown_trans hg hg2 (by simp)
      have ak2 := ak.grown hg2
      have c1 := hg2.cell a1 (by simp)
      have c2 := hg2.cell a2 (by simp)
      have c3 := hg2.cell a3 (by simp)
      clear a1 a2 a3 hg hg2 ak
      have hMe : mayR x = mayB x.t x.kn x.vn := rfl
      rw [hMe] at hN hY hbd
      clear hMe
      generalize mayB x.t x.kn x.vn = M at *
      cases M
      · go_wp2
        go_ret2
        have h9 := hN.out (by simp)
        exact ⟨by rw [h9]; rfl, hG2⟩
      · obtain ⟨hx1, hx2⟩ := hbd.out (by simp)
        by_cases hmin : S ≤ 1000000
        · have hmn : min (S : Int) 1000000 = (S : Int) := by omega
          go_wp2_with fail
          refine (rsize_any _ x ak2).mono ?_
          rintro e w3 ⟨rfl, hg3⟩
          have hG3 := grown_trans hG2 hg3 (by simp)
          clear c1 c2 c3 hG2 hg3 ak2
          go_wp2
          go_roundw
          case rel => exact ⟨i + 1, S + (12 + x.kn + x.vn), by omega, by go_num, by go_num, by omega, (by have h8 := hS.out; have h7 := hz2.out; unfold Sz at *; omega : Sz l (i + 1) (S + (12 + x.kn + x.vn))), hY.out (by simp), hG3⟩
          case measure => simp [intOf]; omega
        · have hmn : min (S : Int) 1000000 = 1000000 := by omega
          go_wp2_with fail
          refine (rsize_any _ x ak2).mono ?_
          rintro e w3 ⟨rfl, hg3⟩
          have hG3 := grown_trans hG2 hg3 (by simp)
          clear c1 c2 c3 hG2 hg3 ak2
          go_wp2
          go_roundw
          case rel => exact ⟨i + 1, 1000000 + (12 + x.kn + x.vn), by omega, by go_num, by go_num, by omega, (by have h8 := hS.out; have h7 := hz2.out; unfold Sz at *; omega : Sz l (i + 1) (1000000 + (12 + x.kn + x.vn))), hY.out (by simp), hG3⟩
          case measure => simp [intOf]; omega
    · obtain rfl : i = n := by omega
      have hd : decide ((i : Int) < (i : Int)) = false := by simp
      have HF : Hid (fitsR l = if 256 < i ∨ 65536 < S then (0, 8) else (S, 0)) := by
        have h9 := hm.out
        rw [List.take_of_length_le (by omega)] at h9
        have h8 := hS.out
        unfold Sz at h8
        rw [List.take_of_length_le (by omega)] at h8
        have h7 := hnil.out
        show _ = _
        unfold fitsR
        rw [hlen]
        simp only [h9, h7, Bool.true_eq_false, or_self, if_false]
        obtain ⟨_, h8 | ⟨h8, h6⟩⟩ := h8
        · rw [← h8]
        · rw [if_pos (by omega), if_pos (by omega)]
      clear hm hS
      by_cases h256 : 256 < i
      · have h2 : decide ((256 : Int) < (i : Int)) = true := by simp; omega
        go_wp2
        go_ret2
        exact ⟨by rw [HF.out, if_pos (Or.inl h256)]; rfl, hg⟩
      · have h2 : decide ((256 : Int) < (i : Int)) = false := by simp; omega
        by_cases h65 : 65536 < S
        · have h3 : decide ((65536 : Int) < (S : Int)) = true := by simp; omega
          go_wp2
          go_ret2
          exact ⟨by rw [HF.out, if_pos (Or.inr h65)]; rfl, hg⟩
        · have h3 : decide ((65536 : Int) < (S : Int)) = false := by simp; omega
          go_wp2
          go_ret2
          exact ⟨by rw [HF.out, if_neg (by omega)]; rfl, hg⟩
end Go.Proofs.Ytlfgikhjcimppaa
