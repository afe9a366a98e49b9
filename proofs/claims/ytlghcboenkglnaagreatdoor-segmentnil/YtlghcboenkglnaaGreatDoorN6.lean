/-
  What a segment's name says: over bytes, and the program's Parse.
-/
import Derived.Test.YtlghcboenkglnaaGreatDoorN4
namespace Go.Proofs.YtlghcboenkglnaaGreatDoor
open Go.RowKit
set_option linter.unusedVariables false

/-- What a digit says; what digits say. -/
def hv (b : UInt8) : Option Nat := if 48 ≤ b.toNat ∧ b.toNat ≤ 57 then some (b.toNat - 48) else if 97 ≤ b.toNat ∧ b.toNat ≤ 102 then some (b.toNat - 87) else none
def hvI (b : UInt8) : Int := match hv b with | some d => (d : Int) | none => -1
def stepN (a : Option Nat) (b : UInt8) : Option Nat := match a, hv b with | some x, some d => some (16 * x + d) | _, _ => none
def numP (l : List UInt8) : Option Nat := l.foldl stepN (some 0)
theorem numP_snoc (l : List UInt8) (b : UInt8) : numP (l ++ [b]) = stepN (numP l) b := by simp [numP]
theorem fold_none (t : List UInt8) : t.foldl stepN none = none := by
  induction t with
  | nil => rfl
  | cons b t ih => exact ih
theorem numP_none {l : List UInt8} (t : List UInt8) (h : numP l = none) : numP (l ++ t) = none := by
  unfold numP at h ⊢
  rw [List.foldl_append, h, fold_none]
theorem hv_lt {b : UInt8} {d : Nat} (h : hv b = some d) : d < 16 := by
  unfold hv at h
  split at h
  · cases h; omega
  · split at h
    · cases h; omega
    · cases h
theorem hv_all : ∀ n, n < 256 → Lib.indexByte [48, 49, 50, 51, 52, 53, 54, 55, 56, 57, 97, 98, 99, 100, 101, 102] (UInt8.ofNat n) = hvI (UInt8.ofNat n) := by decide +kernel
theorem hv_idx (b : UInt8) : Lib.indexByte [48, 49, 50, 51, 52, 53, 54, 55, 56, 57, 97, 98, 99, 100, 101, 102] b = hvI b := by
  have := hv_all b.toNat b.toNat_lt
  simpa using this

/-- The place of a byte. -/
theorem idx_at {l : List UInt8} {c : UInt8} {k : Nat} (h : Lib.indexByte l c = (k : Int)) : l[k]? = some c := by
  induction l generalizing k with
  | nil => simp [Lib.indexByte] at h
  | cons b t ih =>
    unfold Lib.indexByte at h
    split at h
    · rename_i hb
      obtain rfl : k = 0 := by omega
      simpa using hb
    · split at h
      · omega
      · obtain ⟨j, rfl⟩ : ∃ j, k = j + 1 := ⟨k - 1, by have := Lib.indexByte_ge t c; simp at *; omega⟩
        simpa using ih (k := j) (by omega)
theorem idx_first {l : List UInt8} {c : UInt8} {k : Nat} (h : l[k]? = some c) (hn : ∀ b ∈ l.take k, b ≠ c) : Lib.indexByte l c = (k : Int) := by
  induction l generalizing k with
  | nil => simp at h
  | cons b t ih =>
    unfold Lib.indexByte
    cases k with
    | zero => simp at h; subst h; simp
    | succ j =>
      have hb : b ≠ c := hn b (by simp)
      have := ih (k := j) (by simpa using h) (fun x hx => hn x (by simp [hx]))
      rw [if_neg (by simpa using hb), this, if_neg (by simp)]
      omega

theorem ext_list (s : ByteArray) (a b : Nat) : (s.extract a b).data.toList = (s.data.toList.take b).drop a := by
  rw [ByteArray.data_extract]
  simp [List.extract_eq_take_drop, List.drop_take]
theorem ext_size (s : ByteArray) (k : Nat) (hk : k ≤ s.size) : (s.extract 0 k).size = k := by
  rw [ByteArray.size_extract]; omega

/-- What a name says: the log, the base. -/
def parseR (s : ByteArray) : Option (ByteArray × Nat) :=
  if s.size < 16 then none
  else match numP (s.data.toList.drop (s.size - 14)) with
    | none => none
    | some x => if logB (s.extract 0 (s.size - 15)) = true ∧ s.data.toList[s.size - 15]? = some 45 ∧ x ≤ 9007199254740992 then some (s.extract 0 (s.size - 15), x) else none
/-- What Parse answers. -/
def parseV (s : ByteArray) : Value := match parseR s with
  | none => .tuple #[.string ⟨#[]⟩, .int .i64 0, .bool false]
  | some (a, x) => .tuple #[.string a, .int .i64 (x : Int), .bool true]

theorem log_no {s : ByteArray} (h : logB s = true) : ∀ b ∈ s.data.toList, b ≠ 45 := by
  intro b hb e
  unfold logB at h
  simp only [Bool.and_eq_true, List.all_eq_true] at h
  have := h.2 b hb
  subst e
  simp [okl] at this

/-- Where the hyphen is not, or the rest has not fourteen bytes, nothing is said. -/
theorem parse_no {s : ByteArray} (h : ∀ k : Nat, Lib.indexByte s.data.toList 45 = (k : Int) → logB (s.extract 0 k) = true → s.size - (k + 1) ≠ 14) : parseR s = none := by
  unfold parseR
  split
  · rfl
  · rename_i h16
    split
    · rfl
    · rename_i x hx
      split
      · rename_i hc
        obtain ⟨h1, h2, h3⟩ := hc
        have hi : Lib.indexByte s.data.toList 45 = ((s.size - 15 : Nat) : Int) := idx_first h2 (fun b hb => log_no h1 b (by rw [ext_list]; simpa using hb))
        exact absurd (by omega) (h _ hi h1)
      · rfl
theorem parse_yes {s : ByteArray} {k : Nat} (hi : Lib.indexByte s.data.toList 45 = (k : Int)) (hl : logB (s.extract 0 k) = true) (hk : k ≤ s.size) (h14 : s.size - (k + 1) = 14) :
    parseR s = match numP (s.data.toList.drop (k + 1)) with | none => none | some x => if x ≤ 9007199254740992 then some (s.extract 0 k, x) else none := by
  have h1 : 1 ≤ k := by
    unfold logB at hl
    simp only [Bool.and_eq_true, decide_eq_true_eq] at hl
    have := hl.1.1
    rw [ext_size s k hk] at this
    exact this
  have e1 : s.size - 15 = k := by omega
  have e2 : s.size - 14 = k + 1 := by omega
  unfold parseR
  rw [if_neg (by omega), e1, e2]
  split
  · rfl
  · simp [hl, idx_at hi]
end Go.Proofs.YtlghcboenkglnaaGreatDoor
