/-
  The document's number and value.
-/
import Derived.Test.YtmnfdiffneobpaaP1
namespace Go.Proofs.Ytmnfdiffneobpaa
open Go.RowKit
set_option linter.unusedVariables false

set_option maxRecDepth 100000 in
set_option maxHeartbeats 400000 in
theorem rnumber_any (w : World) (X sz : Nat) (hX : X < 18446744073709551616) (hs : sz ≤ 8) :
    Calls Try.prog 50 #[.int .u64 X, .int .i64 sz] w fun e w' => ∃ ao' cap', e = .returned (.slice ao' sz cap') ∧ Ow w' w.heap.size 5 ao' sz cap' (low X sz) ∧ w.grownBy w' none := by
  go_enter Try.func50, Try.ntmps50
  go_wp2_with fail
  go_loopw [0, 5, 6] (fun x o i wr => ∃ (k : Nat) (ao' : Option Addr) (cap' y : Nat), k ≤ sz ∧ i = .int .i64 k ∧ x = .int .u64 y ∧ Hid (y = X / 256 ^ k) ∧ y < 18446744073709551616 ∧ o = .slice ao' k cap' ∧ Ow wr w.heap.size 5 ao' k cap' (low X k) ∧ Below w.heap.size w wr)
    (fun _ _ i _ => sz - (intOf i).toNat)
  case atStart => exact ⟨0, none, 0, X, Nat.zero_le _, rfl, rfl, (show X = X / 256 ^ 0 by simp), hX, rfl, Ow.nil _ _ _, Below.refl _ _⟩
  case round =>
    obtain ⟨k, ao1, cap1, y, hk, rfl, rfl, hy, hyl, rfl, ho1, hb1⟩ := hrel
    by_cases hlt : k < sz
    · have hbs := Bs.one wr (.int .u8 ((y : Int) % 256)) (UInt8.ofNat y) 5 (bv_mod y)
      have hwb : w.heap.size ≤ wr.heap.size := hb1.size
      go_wp2_with (at_builtin; refine wpList_append_bs _ rfl _ _ 40 rfl w.heap.size 5 Try.underlying40 Try.info5 rfl (ho1.grown (World.grownBy_alloc _ _ none)) rfl hbs (by omega) (by simp; omega) ?_)
      intro ao2 cap2 w2 ho2 hg2
      have hb2 : Below w.heap.size w w2 := (hb1.alloc hwb _).grown hg2 (by simp; omega) (fun k hk => (ho1.from_base k hk).1)
      clear hbs hg2 ho1 hb1
      go_wp2
      go_roundw
      case rel => exact ⟨k + 1, ao2, cap2, y / 256, hlt, by go_num, by go_num, low_step hy, by omega, rfl, by rw [low_succ, ← hy.out]; exact ho2, hb2⟩
      case measure => simp [intOf]; omega
    · obtain rfl : k = sz := by omega
      go_wp2
      go_ret
      exact ⟨_, _, rfl, ho1, below_grownBy hb1⟩

set_option maxRecDepth 100000 in
set_option maxHeartbeats 400000 in
theorem rvalue_any (w : World) (ao : Option Addr) (n cap : Nat) (l : List UInt8) (hb : Bs w ao n cap l) (hn : n ≤ 8) :
    Calls Try.prog 51 #[.slice ao n cap] w fun e w' => e = .returned (.int .u64 (val l)) ∧ w' = w := by
  have hl : Hid (l.length = n) := hb.len
  go_enter Try.func51, Try.ntmps51
  go_wp2_with fail
  go_loop [3, 4] (fun x i => ∃ (k y : Nat), k ≤ n ∧ i = .int .i64 ((k : Int) - 1) ∧ x = .int .u64 y ∧ Hid (y = val (l.drop k)))
    (fun _ i => (intOf i + 1).toNat)
  case atStart => exact ⟨n, 0, Nat.le_refl _, rfl, rfl, (show 0 = val (l.drop n) by rw [List.drop_of_length_le (by rw [hl.out]; exact Nat.le_refl _)]; rfl)⟩
  case round =>
    obtain ⟨k, y, hk, rfl, rfl, hy⟩ := hrel
    by_cases hk0 : k = 0
    · subst hk0
      go_wp2
      go_ret
      have : y = val l := by have := hy.out; simpa using this
      exact ⟨by rw [this]; rfl, rfl⟩
    · obtain ⟨j, rfl⟩ : ∃ j, k = j + 1 := ⟨k - 1, by omega⟩
      obtain ⟨b, o, hbo, _⟩ := hb.addr (by omega)
      subst hbo
      have hj : j < l.length := by rw [hl.out]; omega
      have hc := hb.at hj
      have hy2 : y < 72057594037927936 := by
        have h1 := val_lt (l.drop (j + 1))
        have h2 : 256 ^ (l.drop (j + 1)).length ≤ 256 ^ 7 := Nat.pow_le_pow_right (by omega) (by simp [hl.out]; omega)
        have := hy.out
        omega
      have hb2 := (l[j]).toNat_lt
      go_wp2
      go_round
      case rel => exact ⟨j, 256 * y + l[j].toNat, by omega, rfl, by go_num, (show _ = _ by rw [val_drop hj, ← hy.out]; omega)⟩
      case measure => simp [intOf]
end Go.Proofs.Ytmnfdiffneobpaa
