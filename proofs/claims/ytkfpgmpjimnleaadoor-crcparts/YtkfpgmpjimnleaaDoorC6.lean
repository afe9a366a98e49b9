/-
  Seal, Open, and the known sums: the walks of the code.
-/
import Derived.Test.YtkfpgmpjimnleaaDoorC5
namespace Go.Proofs.YtkfpgmpjimnleaaDoor
open Go.RowKit
set_option linter.unusedVariables false

theorem seal_set (l : List UInt8) (n S k : Nat) (hl : l.length = n) (hk : k < 4) :
    (l ++ low S k ++ List.replicate (4 - k) 0).set (n + k) (UInt8.ofNat (S / 256 ^ k)) = l ++ low S (k + 1) ++ List.replicate (4 - (k + 1)) 0 := by
  have h1 : (l ++ low S k).length = n + k := by simp [hl, low_length]
  rw [low_succ, ← List.append_assoc, List.set_append_right _ _ (by omega), h1, Nat.sub_self, show 4 - k = (4 - (k + 1)) + 1 from by omega, List.replicate_succ, List.set_cons_zero]
  simp

set_option maxRecDepth 100000 in
set_option maxHeartbeats 1000000 in
theorem seal_any (w : World) (ao : Option Addr) (n cap : Nat) (l : List UInt8) (hb : Bs w ao n cap l) (hsz : n + 8 ≤ 140737488355328) :
    Calls Tryd.prog 22 #[.slice ao n cap] w fun e w' => ∃ g, e = .returned (.slice (some ⟨g, 0, none⟩) (n + 4 : Nat) (n + 4 : Nat)) ∧ Ow w' w.heap.size 5 (some ⟨g, 0, none⟩) (n + 4) (n + 4) (l ++ low (sm l) 4) ∧ w.grownBy w' none := by
  have hlen := hb.len
  go_enter Tryd.func22, Tryd.ntmps22
  go_wp2_with (at_make; refine wpList_make_bs _ rfl _ _ 26 rfl w.heap.size 5 Tryd.underlying26 info5 (n + 4) (n + 4) rfl rfl (by omega) (by omega) (by omega) (by omega) (Nat.le_refl _) ?_)
  intro g w1 ho1 hg1
  have hb1 := hb.grown hg1
  go_wp2_with (refine wpList_copy_part _ rfl (.tmp 10) (.tmp 11) 26 rfl w.heap.size 5 Tryd.underlying26 info5 rfl ho1 rfl hb1 ?_)
  intro w2 ho2 hg2
  replace ho2 : Ow w2 w.heap.size 5 (some ⟨g, 0, none⟩) (n + 4) (n + 4) (l ++ List.replicate 4 0) := by first | exact ho2 | simpa [List.take_of_length_le, hlen] using ho2
  have hgb := (ho1.from_base g rfl).1
  have hG2 : w.grownBy w2 none := grown_trans hg1 hg2 (fun k hk => Or.inr (ho1.from_base k hk).1)
  have hb2 := hb.grown hG2
  clear ho1 hg1 hb1 hg2
  go_wp2_with fail
  refine (sum_any _ _ _ _ [l] (Pc.one w2 ao n cap l hb2 26)).mono ?_
  rw [show [l].flatten = l from by simp]
  rintro e w3 ⟨rfl, hg3⟩
  have hg3' := grown_trans (alloc_grown w2 _) hg3 (by simp)
  have ho3 := ho2.grown hg3'
  have hG3 := grown_trans hG2 hg3' (by simp)
  have hsl := sm_lt l
  clear ho2 hG2 hb2 hg3 hg3'
  go_wp2_with fail
  go_loopw [4, 5] (fun s i wr => ∃ (k y : Nat), k ≤ 4 ∧ i = .int .i64 (n + k : Nat) ∧ s = .int .u32 y ∧ y < 4294967296 ∧ Hid (y = sm l / 256 ^ k) ∧ Ow wr w.heap.size 5 (some ⟨g, 0, none⟩) (n + 4) (n + 4) (l ++ low (sm l) k ++ List.replicate (4 - k) 0) ∧ w.grownBy wr none)
    (fun _ i _ => n + 4 - (intOf i).toNat)
  case atStart => exact ⟨0, sm l, Nat.zero_le _, rfl, rfl, hsl, (show _ = _ by simp), by simpa [low_zero] using ho3, hG3⟩
  case round =>
    obtain ⟨k, y, hk, rfl, rfl, hy, hY, ho, hg⟩ := hrel
    by_cases hlt : k < 4
    · have hfz := ho.there
      have hj : n + k < (l ++ low (sm l) k ++ List.replicate (4 - k) 0).length := by rw [ho.len]; omega
      have hcell := ho.shows.at hj
      rw [Nat.zero_add] at hcell
      have hset := ho.set (n + k) (UInt8.ofNat y)
      have hY2 : Hid (y / 256 = sm l / 256 ^ (k + 1)) := low_step hY.out
      have hse : (l ++ low (sm l) k ++ List.replicate (4 - k) 0).set (n + k) (UInt8.ofNat y) = l ++ low (sm l) (k + 1) ++ List.replicate (4 - (k + 1)) 0 := by rw [hY.out]; exact seal_set l n (sm l) k hlen hlt
      rw [hse] at hset
      have hbv := bv_mod y
      have hgs : w.grownBy (wr.setCell ⟨g, n + k, none⟩ (bv (UInt8.ofNat y))) none := below_of_new hg (setCell_grown wr g (n + k) _) hgb
      generalize l ++ low (sm l) k ++ List.replicate (4 - k) 0 = cur at *
      have hbv2 : bv (UInt8.ofNat y) = Value.int .u8 ((y : Int) % 256) := hbv.symm
      rw [hbv2] at hset hgs
      clear hbv hbv2 hse
      go_wp2
      go_roundw
      case rel => exact ⟨k + 1, y / 256, by omega, by go_num, by go_num, by omega, hY2, hset, hgs⟩
      case measure => simp [intOf]; omega
    · obtain rfl : k = 4 := by omega
      go_wp2
      go_ret
      exact ⟨g, rfl, by simpa using ho, hg⟩

theorem or_step32 (y b k : Nat) (hy : y < 256 ^ k) (hb : b < 256) (hk : k < 4) :
    bits BinOp.or IntKind.u32 (y : Int) (IntKind.u32.wrap ((b : Int) * 2 ^ (8 * k))) = ((y + b * 256 ^ k : Nat) : Int) := by
  have e1 : (2 : Int) ^ (8 * k) = ((256 ^ k : Nat) : Int) := by
    rw [Int.natCast_pow, Int.pow_mul]; rfl
  have h256 : 256 * 256 ^ k ≤ 4294967296 := by
    have : 256 ^ (k + 1) ≤ 256 ^ 4 := Nat.pow_le_pow_right (by omega) (by omega)
    rw [Nat.pow_succ] at this
    omega
  have hbk : b * 256 ^ k < 4294967296 := by
    have h1 : b * 256 ^ k < 256 * 256 ^ k := Nat.mul_lt_mul_of_pos_right hb (Nat.pow_pos (by omega))
    omega
  have e3 : IntKind.u32.wrap ((b : Int) * ((256 ^ k : Nat) : Int)) = ((b * 256 ^ k : Nat) : Int) := by
    rw [IntKind.wrap_u32', ← Int.natCast_mul]; omega
  rw [e1, e3, u32_or_nat _ _ (by omega) hbk]
  congr 1
  have e4 : 256 ^ k = 2 ^ (8 * k) := by rw [Nat.pow_mul]
  rw [e4] at hy ⊢
  rw [Nat.or_comm, Nat.add_comm, Nat.mul_comm, ← Nat.two_pow_add_eq_or_of_lt hy]

theorem val_lt4 {l : List UInt8} (h : l.length ≤ 4) : val l < 4294967296 := by
  have h1 := val_lt l
  have h2 : 256 ^ l.length ≤ 256 ^ 4 := Nat.pow_le_pow_right (by omega) h
  omega

set_option maxRecDepth 100000 in
set_option maxHeartbeats 1000000 in
theorem sealOf_any (w : World) (b o n cap : Nat) (l : List UInt8) (hb : Bs w (some ⟨b, o, none⟩) n cap l) (hn : n ≤ 4) :
    Calls Tryd.prog 42 #[.slice (some ⟨b, o, none⟩) n cap] w fun e w' => e = .returned (.int .u32 (val l)) ∧ w' = w := by
  have hlen := hb.len
  go_enter Tryd.func42, Tryd.ntmps42
  go_wp2_with fail
  go_loop [3, 4, 5, 8] (fun x _ _ i => ∃ (k y : Nat), k ≤ n ∧ i = .int .i64 k ∧ x = .int .u32 y ∧ Hid (y = val (l.take k))) (fun _ _ _ i => n - (intOf i).toNat)
  case atStart => exact ⟨0, 0, Nat.zero_le _, rfl, rfl, (show _ = _ by simp [val])⟩
  case round =>
    obtain ⟨k, y, hk, rfl, rfl, hY⟩ := hrel
    by_cases hlt : k < n
    · have hkl : k < l.length := by omega
      have hcell := hb.at hkl
      have hy : y < 256 ^ k := by
        rw [hY.out]
        have := val_lt (l.take k)
        rwa [List.length_take, Nat.min_eq_left (by omega)] at this
      have hor := or_step32 y l[k].toNat k hy l[k].toNat_lt (by omega)
      rw [IntKind.wrap_u32'] at hor
      have hnext : Hid (y + l[k].toNat * 256 ^ k = val (l.take (k + 1))) := by
        show _ = _
        rw [val_take_succ hkl, ← hY.out]
      generalize l[k] = c at *
      have hcl := c.toNat_lt
      have hcw : IntKind.u32.wrap (c.toNat : Int) = (c.toNat : Int) := by rw [IntKind.wrap_u32']; omega
      generalize y + c.toNat * 256 ^ k = z at *
      have h8 : ((8 : Int) * (k : Int)).toNat = 8 * k := by omega
      go_wp2
      go_round
      case rel => exact ⟨k + 1, z, by omega, by go_num, rfl, hnext⟩
      case measure => simp [intOf]; omega
    · obtain rfl : k = n := by omega
      go_wp2
      go_ret
      exact ⟨ret_int (by rw [hY.out, List.take_of_length_le (by omega)]), rfl⟩

end Go.Proofs.YtkfpgmpjimnleaaDoor
