/-
  Name, whole.
-/
import Derived.Test.YtlghcboenkglnaaGreatDoorN3
namespace Go.Proofs.YtlghcboenkglnaaGreatDoor
open Go.RowKit
set_option linter.unusedVariables false

/-- A digit to the base 16; the first k of the base's fourteen. -/
def hexd (d : Nat) : UInt8 := if d < 10 then UInt8.ofNat (48 + d) else UInt8.ofNat (87 + d)
def dig (x k : Nat) : Nat := x / 16 ^ (13 - k) % 16
def digs (x k : Nat) : List UInt8 := (List.range k).map fun i => hexd (dig x i)
theorem digs_succ (x k : Nat) : digs x (k + 1) = digs x k ++ [hexd (dig x k)] := by simp [digs, List.range_succ]
theorem digs_len (x k : Nat) : (digs x k).length = k := by simp [digs]
/-- A segment's name. -/
def nameL (s : ByteArray) (x : Nat) : List UInt8 := s.data.toList ++ 45 :: digs x 14

theorem dig_shift (x k : Nat) (hk : k < 14) : ((x : Int) / 2 ^ (4 * (13 - k))).tmod 16 = ((dig x k : Nat) : Int) := by
  have e : (2 : Int) ^ (4 * (13 - k)) = ((16 ^ (13 - k) : Nat) : Int) := by
    rw [Int.pow_mul, Int.natCast_pow]; rfl
  rw [e, ← Int.natCast_ediv, Int.tmod_eq_emod_of_nonneg (Int.natCast_nonneg _)]
  unfold dig
  norm_cast
theorem dig_lt (x k : Nat) : dig x k < 16 := Nat.mod_lt _ (by decide)
theorem hexd_at (d : Nat) (h : d < (⟨#[48, 49, 50, 51, 52, 53, 54, 55, 56, 57, 97, 98, 99, 100, 101, 102]⟩ : ByteArray).size) : ((⟨#[48, 49, 50, 51, 52, 53, 54, 55, 56, 57, 97, 98, 99, 100, 101, 102]⟩ : ByteArray)[d]'h).toNat = (hexd d).toNat := by
  have h2 : d < 16 := h
  revert h
  match d, h2 with
  | 0, _ => intro h; rfl
  | 1, _ => intro h; rfl
  | 2, _ => intro h; rfl
  | 3, _ => intro h; rfl
  | 4, _ => intro h; rfl
  | 5, _ => intro h; rfl
  | 6, _ => intro h; rfl
  | 7, _ => intro h; rfl
  | 8, _ => intro h; rfl
  | 9, _ => intro h; rfl
  | 10, _ => intro h; rfl
  | 11, _ => intro h; rfl
  | 12, _ => intro h; rfl
  | 13, _ => intro h; rfl
  | 14, _ => intro h; rfl
  | 15, _ => intro h; rfl
  | n + 16, h2 => exact absurd h2 (by omega)

set_option maxRecDepth 100000 in
theorem name_bad (w : World) (s : ByteArray) (x : Int) (h : logB s = false ∨ x < 0 ∨ 9007199254740992 < x) : Calls Tryz.prog 41 #[.string s, .int .i64 x] w fun e w' => e = .returned (.tuple #[.string ⟨#[]⟩, .int .i64 2]) ∧ w' = w := by
  go_enter Tryz.func41, Tryz.ntmps41
  go_wp2_with fail
  refine (isLog_any _ _).mono ?_
  rintro e w1 ⟨rfl, rfl⟩
  cases hl : logB s
  · clear h
    go_wp2
    go_ret2
    exact ⟨rfl, rfl⟩
  · rw [hl] at h
    by_cases h1 : x < 0
    · clear h
      go_wp2
      go_ret2
      exact ⟨rfl, rfl⟩
    · have h2 : 9007199254740992 < x := by
        rcases h with h | h | h
        · cases h
        · omega
        · exact h
      clear h
      go_wp2
      go_ret2
      exact ⟨rfl, rfl⟩

set_option maxRecDepth 100000 in
set_option maxHeartbeats 2000000 in
theorem name_ok (w : World) (s : ByteArray) (x : Nat) (h : logB s = true) (hx : x ≤ 9007199254740992) : Calls Tryz.prog 41 #[.string s, .int .i64 x] w fun e w' => e = .returned (.tuple #[.string ⟨(nameL s x).toArray⟩, .int .i64 0]) ∧ w.grownBy w' none := by
  have hsz : s.size ≤ 8 := by unfold logB at h; simp at h; omega
  have h1 : ¬ (x : Int) < 0 := by omega
  have h2 : ¬ 9007199254740992 < (x : Int) := by omega
  have hcv := run_bytes_of_string (P := Tryz.prog) w 9 48 5 (s ++ ⟨#[45]⟩) Tryz.underlying9 Tryz.underlying48 Tryz.underlying5
  have hsz2 : (s ++ (⟨#[45]⟩ : ByteArray)).size = s.size + 1 := by rw [ByteArray.size_append]; rfl
  have hom := Om.conv w (s ++ ⟨#[45]⟩) (by rw [hsz2]; unfold maxLen; omega)
  rw [hsz2] at hcv hom
  go_enter Tryz.func41, Tryz.ntmps41
  go_wp2_with fail
  refine (isLog_any _ _).mono ?_
  rintro e w1 ⟨rfl, rfl⟩
  rw [h]
  have hg0 : w1.grownBy (w1.drew.alloc (.cells (bytesRow (s ++ ⟨#[45]⟩) (grownCap w1 (s.size + 1) 0 5)) 5 ((bytesRow (s ++ ⟨#[45]⟩) (grownCap w1 (s.size + 1) 0 5)).size, (bytesRow (s ++ ⟨#[45]⟩) (grownCap w1 (s.size + 1) 0 5)).size + 1))) none := grown_trans (grown_drew w1 none) (World.grownBy_alloc _ _ none) (by simp)
  go_wp2_with fail
  clear hcv
  have hdat : (s ++ (⟨#[45]⟩ : ByteArray)).data.toList = s.data.toList ++ [45] := by rw [ByteArray.data_append]; simp
  rw [hdat] at hom
  generalize grownCap w1 (s.size + 1) 0 5 = c0 at *
  go_loopw [6, 24] (fun v6 v24 wr => ∃ (k cap : Nat) (ao : Option Addr), k ≤ 14 ∧ v24 = .int .i64 k ∧ v6 = .slice ao (s.size + 1 + k) cap ∧ Om wr w1.heap.size ao (s.size + 1 + k) cap (s.data.toList ++ [45] ++ digs x k) ∧ w1.grownBy wr none) (fun _ v24 _ => 14 - (intOf v24).toNat)
  case atStart =>
    refine ⟨0, c0, _, by omega, rfl, rfl, ?_, hg0⟩
    rw [show s.data.toList ++ [45] ++ digs x 0 = s.data.toList ++ [45] by simp [digs]]
    exact hom
  case round =>
    obtain ⟨k, cap, ao, hk, rfl, rfl, hO, hG⟩ := hrel
    clear hom hg0
    by_cases hlt : k < 14
    · have d1 : decide ((k : Int) < 14) = true := by simp; omega
      have hwa : IntKind.i64.wrap (13 - (k : Int)) = 13 - (k : Int) := by rw [IntWalk.i64_in _ (by omega)]
      have hwb : IntKind.i64.wrap (4 * (13 - (k : Int))) = 4 * (13 - (k : Int)) := by rw [IntWalk.i64_in _ (by omega)]
      have hdg := dig_shift x k hlt
      have hdl := dig_lt x k
      have hds : Hid (digs x (k + 1) = digs x k ++ [hexd (dig x k)]) := digs_succ x k
      obtain ⟨d, hd⟩ : ∃ d, Hid (dig x k = d) := ⟨_, (rfl : dig x k = dig x k)⟩
      rw [hd.out] at hdg hdl
      have i1 : (0 : Int) ≤ (d : Int) := by omega
      have i2 : (d : Int) < 16 := by omega
      have hch := hexd_at d
      have ga := World.grownBy_alloc wr (.cells #[.int .u8 (hexd d).toNat] 5) none
      have hO1 := hO.kept ga
      have hc1 : (wr.alloc (.cells #[.int .u8 (hexd d).toNat] 5)).cell? ⟨wr.heap.size, 0, none⟩ = some (bv (hexd d)) := by simp [bv]
      have hGs := hG.size
      go_wp2_with (at_builtin; refine wpList_append_om rfl _ _ rfl rfl w1.heap.size rfl hO1 (hexd d) wr.heap.size rfl hc1 (by omega) (by simp; omega) ?_)
      intro ao2 cap2 w2 hO2 hg2
      have hG2 : w1.grownBy w2 none := grown_trans (grown_trans hG ga (by simp)) hg2 (fun q hq => Or.inr (by
        obtain ⟨g, cur, fz, rfl, hb, _⟩ := hO.row
        cases hq
        exact hb))
      have hO3 : Om w2 w1.heap.size ao2 (s.size + 1 + (k + 1)) cap2 (s.data.toList ++ [45] ++ digs x (k + 1)) := by
        rw [hds.out, hd.out]
        simpa [Nat.add_assoc] using hO2
      clear hO hO1 hO2 hg2 ga hG hc1
      go_wp2_with fail
      go_roundw
      case rel => exact ⟨k + 1, cap2, ao2, by omega, by go_num, rfl, hO3, hG2⟩
      case measure => simp [intOf]; omega
    · obtain rfl : k = 14 := by omega
      have d1 : decide ((14 : Int) < 14) = false := by decide
      have hcv := run_string_bs wr 48 9 5 Tryz.underlying48 Tryz.underlying5 Tryz.underlying9 hO.shows
      go_wp2
      go_ret2
      exact ⟨rfl, hG⟩
end Go.Proofs.YtlghcboenkglnaaGreatDoor
