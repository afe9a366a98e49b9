/-
  What the names' functions ask of the library: the place of a byte in a string, a string cut at a hyphen.
-/
import Derived.Test.YtlghcboenkglnaaGreatDoorMem
import Derived.Test.YtlghcboenkglnaaGreatDoorRows
import Derived.Lib.Strings
import Derived.Lib.Slices
import Derived.Lib.Walk
import Derived.Lib.Bytealg
import Derived.Deep.QuietTactic
import Derived.BigQuiet
namespace Go.Proofs.YtlghcboenkglnaaGreatDoor
open Go.RowKit
set_option linter.unusedVariables false

set_option maxHeartbeats 1000000 in
set_option maxRecDepth 100000 in
theorem place15 (s : ByteArray) (c : Int) (w : World) : Calls Tryz.prog 127 #[.string s, .int .u8 c] w fun e w' => e = .returned (.int .i64 (Lib.indexByte s.data.toList c.toNat.toUInt8)) ∧ w' = w := by
  go_enter Tryz.func127, Tryz.ntmps127
  go_wp2
  rw [run_callFunc_extern Tryz.func153 (by kernel_rfl) (by kernel_rfl) (by kernel_rfl) (e := Extern.BytealgIndexByte.indexByte) (by kernel_rfl), Lib.run_indexByteString]
  simp only [Result.andThen]
  rw [Oper.upon_value]
  go_wp2
  go_ret
  exact ⟨rfl, rfl⟩

set_option maxHeartbeats 1000000 in
set_option maxRecDepth 100000 in
theorem place12 (s : ByteArray) (c : Int) (w : World) : Calls Tryz.prog 95 #[.string s, .int .u8 c] w fun e w' => e = .returned (.int .i64 (Lib.indexByte s.data.toList c.toNat.toUInt8)) ∧ w' = w := by
  go_enter Tryz.func95, Tryz.ntmps95
  go_wp2_with fail
  refine (place15 _ _ _).mono ?_
  rintro e w' ⟨rfl, rfl⟩
  go_wp2
  go_ret
  exact ⟨rfl, rfl⟩

set_option maxHeartbeats 2000000 in
set_option maxRecDepth 100000 in
theorem place18 (s : ByteArray) (c : UInt8) (w : World) : Calls Tryz.prog 152 #[.string s, .string ⟨#[c]⟩] w fun e w' => e = .returned (.int .i64 (Lib.indexByte s.data.toList c)) ∧ w' = w := by
  go_enter Tryz.func152, Tryz.ntmps152
  go_wp2_with (go_at_call 127; refine (place15 _ _ _).mono ?_; rintro e w' ⟨rfl, rfl⟩)
  · have h : ([c] == s.toList) = true := by assumption
    go_ret
    refine ⟨?_, rfl⟩
    have e : s.data.toList = [c] := by rw [← Lib.toList_data]; exact (beq_iff_eq.1 h).symm
    rw [e]
    simp [Lib.indexByte]
  · go_ret
    exact ⟨rfl, rfl⟩

theorem indexByte_lt (l : List UInt8) (c : UInt8) : Lib.indexByte l c < l.length := by
  induction l with
  | nil => simp [Lib.indexByte]
  | cons b t ih =>
    unfold Lib.indexByte
    split
    · simp
    · split
      · simp; omega
      · simp; omega

/-- What a string cut at the hyphen gives. -/
def CutA (s : ByteArray) (e : Ending) : Prop :=
  (∃ k : Nat, Lib.indexByte s.data.toList 45 = (k : Int) ∧ k < s.size ∧ e = .returned (.tuple #[.string (s.extract 0 k), .string (s.extract (k + 1) s.size), .bool true])) ∨
  (Lib.indexByte s.data.toList 45 = -1 ∧ e = .returned (.tuple #[.string s, .string ⟨#[]⟩, .bool false]))

set_option maxHeartbeats 2000000 in
set_option maxRecDepth 100000 in
theorem cut14 (s : ByteArray) (w : World) (hs : s.size ≤ maxLen) : Calls Tryz.prog 126 #[.string s, .string ⟨#[45]⟩] w fun e w' => CutA s e ∧ w.grownBy w' none := by
  have hlt := indexByte_lt s.data.toList 45
  have hge := Lib.indexByte_ge s.data.toList 45
  have hsz : s.data.toList.length = s.size := rfl
  rw [hsz] at hlt
  unfold maxLen at hs
  go_enter Tryz.func126, Tryz.ntmps126
  go_wp2_with fail
  refine (place18 _ _ _).mono ?_
  rintro e w1 ⟨rfl, rfl⟩
  obtain ⟨i, hi⟩ : ∃ i, Hid (Lib.indexByte s.data.toList 45 = i) := ⟨_, (rfl : _ = Lib.indexByte s.data.toList 45)⟩
  rw [hi.out] at hlt hge ⊢
  by_cases h : 0 ≤ i
  · obtain ⟨k, rfl⟩ := Int.eq_ofNat_of_zero_le h
    have hw : IntKind.i64.wrap ((k : Int) + 1) = (k : Int) + 1 := by rw [IntWalk.i64_in _ (by omega)]
    have i1 : (k : Int) ≤ (s.size : Int) := by omega
    have i2 : (k : Int) + 1 ≤ (s.size : Int) := by omega
    go_wp2_with fail
    go_quiet (fail)
    go_wp2
    go_ret3
    exact ⟨Or.inl ⟨k, hi.out, by omega, rfl⟩, grown_drewN _ _ none⟩
  · go_wp2
    go_ret3
    exact ⟨Or.inr ⟨by rw [hi.out]; omega, rfl⟩, grown_refl _ _⟩

set_option maxRecDepth 100000 in
theorem cut11 (s : ByteArray) (w : World) (hs : s.size ≤ maxLen) : Calls Tryz.prog 94 #[.string s, .string ⟨#[45]⟩] w fun e w' => CutA s e ∧ w.grownBy w' none := by
  go_enter Tryz.func94, Tryz.ntmps94
  go_wp2_with fail
  refine (cut14 s w hs).mono ?_
  rintro e w1 ⟨(⟨k, hk, hk2, rfl⟩ | ⟨hk, rfl⟩), hg⟩
  · go_wp2
    go_ret3
    exact ⟨Or.inl ⟨k, hk, hk2, rfl⟩, hg⟩
  · go_wp2
    go_ret3
    exact ⟨Or.inr ⟨hk, rfl⟩, hg⟩
end Go.Proofs.YtlghcboenkglnaaGreatDoor
