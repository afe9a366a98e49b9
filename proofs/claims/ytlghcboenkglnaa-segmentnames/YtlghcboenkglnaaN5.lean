/-
  The document's Name.
-/
import Derived.Test.YtlghcboenkglnaaN4
namespace Go.Proofs.Ytlghcboenkglnaa
open Go.RowKit
set_option linter.unusedVariables false

/-- The last k of the fourteen digits. -/
def tail (x k : Nat) : List UInt8 := (digs x 14).drop (14 - k)
theorem tail_zero (x : Nat) : tail x 0 = [] := by unfold tail; rw [List.drop_of_length_le (by rw [digs_len]; omega)]
theorem tail_succ (x k : Nat) (hk : k < 14) : tail x (k + 1) = hexd (x / 16 ^ k % 16) :: tail x k := by
  unfold tail
  rw [List.drop_eq_getElem_cons (by rw [digs_len]; omega)]
  have e1 : 14 - (k + 1) + 1 = 14 - k := by omega
  have e2 : (digs x 14)[14 - (k + 1)]'(by rw [digs_len]; omega) = hexd (x / 16 ^ k % 16) := by
    simp only [digs, List.getElem_map, List.getElem_range, dig]
    rw [show 13 - (14 - (k + 1)) = k by omega]
  rw [e1, e2]
theorem tail_all (x : Nat) : tail x 14 = digs x 14 := rfl

theorem enc_low (d : Nat) (h : d < 10) : Utf8.encode ((48 : Int) + (d : Int)) = ⟨#[hexd d]⟩ := by
  match d, h with
  | 0, _ => rfl
  | 1, _ => rfl
  | 2, _ => rfl
  | 3, _ => rfl
  | 4, _ => rfl
  | 5, _ => rfl
  | 6, _ => rfl
  | 7, _ => rfl
  | 8, _ => rfl
  | 9, _ => rfl
theorem enc_high (d : Nat) (h1 : 10 ≤ d) (h : d < 16) : Utf8.encode ((97 : Int) + (d : Int) - 10) = ⟨#[hexd d]⟩ := by
  match d, h1, h with
  | 10, _, _ => rfl
  | 11, _, _ => rfl
  | 12, _, _ => rfl
  | 13, _, _ => rfl
  | 14, _, _ => rfl
  | 15, _, _ => rfl
  | 0, h, _ => exact absurd h (by decide)
  | 1, h, _ => exact absurd h (by decide)
  | 2, h, _ => exact absurd h (by decide)
  | 3, h, _ => exact absurd h (by decide)
  | 4, h, _ => exact absurd h (by decide)
  | 5, h, _ => exact absurd h (by decide)
  | 6, h, _ => exact absurd h (by decide)
  | 7, h, _ => exact absurd h (by decide)
  | 8, h, _ => exact absurd h (by decide)
  | 9, h, _ => exact absurd h (by decide)
  | n + 16, _, h => exact absurd h (by omega)

set_option maxRecDepth 100000 in
set_option maxHeartbeats 2000000 in
theorem rname_ok (w : World) (s : ByteArray) (x : Nat) (h : logB s = true) (hx : x ≤ 9007199254740992) : Calls Try.prog 9 #[.string s, .int .i64 x] w fun e w' => e = .returned (.string ⟨(nameL s x).toArray⟩) ∧ w' = w := by
  have hsz : s.size ≤ 8 := by unfold logB at h; simp at h; omega
  go_enter Try.func9, Try.ntmps9
  go_wp2
  go_loop [1, 5, 6, 7] (fun v1 v5 v6 _ => ∃ (k y : Nat) (t : ByteArray), k ≤ 14 ∧ v6 = .int .i64 k ∧ v1 = .int .i64 y ∧ v5 = .string t ∧ Hid (y = x / 16 ^ k) ∧ t.size = k ∧ Hid (t.data.toList = tail x k)) (fun _ _ v6 _ => 14 - (intOf v6).toNat)
  case atStart => exact ⟨0, x, ⟨#[]⟩, by omega, rfl, rfl, rfl, (by simp : x = x / 16 ^ 0), rfl, (tail_zero x).symm⟩
  case round =>
    obtain ⟨k, y, t, hk, rfl, rfl, rfl, hy, ht, htl⟩ := hrel
    by_cases hlt : k < 14
    · have d1 : decide ((k : Int) < 14) = true := by simp; omega
      have hyx : y ≤ x := by rw [hy.out]; exact Nat.div_le_self _ _
      obtain ⟨d, hd⟩ : ∃ d, Hid (y % 16 = d) := ⟨_, (rfl : y % 16 = y % 16)⟩
      have hdl : d < 16 := by rw [← hd.out]; exact Nat.mod_lt _ (by decide)
      have e1 : (y : Int).tmod 16 = (d : Int) := by rw [Int.tmod_eq_emod_of_nonneg (by omega), ← hd.out]; norm_cast
      have e2 : (y : Int).tdiv 16 = ((y / 16 : Nat) : Int) := by rw [Int.tdiv_eq_ediv_of_nonneg (by omega)]; norm_cast
      have hnx := tail_succ x k hlt
      rw [← hy.out, hd.out, ← htl.out] at hnx
      have hny : Hid (y / 16 = x / 16 ^ (k + 1)) := by show _ = _; rw [hy.out, Nat.div_div_eq_div_mul, Nat.pow_succ]
      have hlist : ∀ u : ByteArray, u = ⟨#[hexd d]⟩ → (u ++ t).size = k + 1 ∧ Hid ((u ++ t).data.toList = tail x (k + 1)) := fun u hu => by
        subst hu
        refine ⟨by rw [ByteArray.size_append, ht]; show 1 + k = k + 1; omega, ?_⟩
        show _ = _
        rw [hnx, ByteArray.data_append]
        simp
      have hl2 : Hid _ := hlist
      have hyd : Hid (y / 16 ≤ x) := Nat.le_trans (Nat.div_le_self _ _) hyx
      clear hlist hnx hd
      by_cases h10 : d < 10
      · have d2 : decide ((d : Int) < 10) = true := by simp; omega
        have d2n : decide (d < 10) = true := by simp; omega
        have hw1 : IntKind.i64.wrap (48 + (d : Int)) = 48 + (d : Int) := by rw [IntWalk.i64_in _ (by omega)]
        have hw2 : IntKind.i32.wrap (48 + (d : Int)) = 48 + (d : Int) := by rw [IntWalk.i32_in _ (by omega)]
        have hec := enc_low d h10
        obtain ⟨u, hu⟩ : ∃ u : ByteArray, Hid (u = ⟨#[hexd d]⟩) := ⟨_, (rfl : (⟨#[hexd d]⟩ : ByteArray) = ⟨#[hexd d]⟩)⟩
        rw [← hu.out] at hec
        have hus : u.size = 1 := by rw [hu.out]; rfl
        have hfin := hl2.out u hu.out
        clear hl2 hu
        go_wp2
        go_round
        case rel => exact ⟨k + 1, y / 16, u ++ t, by omega, by go_num, by go_num, rfl, hny, hfin.1, hfin.2⟩
        case measure => simp [intOf]; omega
      · have d2 : decide ((d : Int) < 10) = false := by simp; omega
        have d2n : decide (d < 10) = false := by simp; omega
        have hw1 : IntKind.i64.wrap (97 + (d : Int)) = 97 + (d : Int) := by rw [IntWalk.i64_in _ (by omega)]
        have hw3 : IntKind.i64.wrap (97 + (d : Int) - 10) = 97 + (d : Int) - 10 := by rw [IntWalk.i64_in _ (by omega)]
        have hw2 : IntKind.i32.wrap (97 + (d : Int) - 10) = 97 + (d : Int) - 10 := by rw [IntWalk.i32_in _ (by omega)]
        have hec := enc_high d (by omega) hdl
        obtain ⟨u, hu⟩ : ∃ u : ByteArray, Hid (u = ⟨#[hexd d]⟩) := ⟨_, (rfl : (⟨#[hexd d]⟩ : ByteArray) = ⟨#[hexd d]⟩)⟩
        rw [← hu.out] at hec
        have hus : u.size = 1 := by rw [hu.out]; rfl
        have hfin := hl2.out u hu.out
        clear hl2 hu
        go_wp2
        go_round
        case rel => exact ⟨k + 1, y / 16, u ++ t, by omega, by go_num, by go_num, rfl, hny, hfin.1, hfin.2⟩
        case measure => simp [intOf]; omega
    · obtain rfl : k = 14 := by omega
      have d1 : decide ((14 : Int) < 14) = false := by decide
      have hs1 : (s ++ (⟨#[45]⟩ : ByteArray)).size = s.size + 1 := by rw [ByteArray.size_append]; rfl
      have hres : Hid (((s ++ (⟨#[45]⟩ : ByteArray)) ++ t) = ⟨(nameL s x).toArray⟩) := by
        show _ = _
        apply ByteArray.ext
        rw [ByteArray.data_append, ByteArray.data_append]
        apply Array.ext'
        have := htl.out
        rw [tail_all] at this
        simp [nameL, this]
      go_wp2
      go_ret
      exact ⟨congrArg (fun b => Ending.returned (.string b)) hres.out, rfl⟩
end Go.Proofs.Ytlghcboenkglnaa
