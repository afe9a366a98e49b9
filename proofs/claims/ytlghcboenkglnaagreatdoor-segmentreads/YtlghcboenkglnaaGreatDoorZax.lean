import Derived.Test.YtlghcboenkglnaaGreatDoorZaw
import Derived.Test.YtlghcboenkglnaaGreatDoorZaa
import Derived.Test.YtlghcboenkglnaaGreatDoorX1
import Derived.RangeFuncRecord
/-
  What a segment's name says: over bytes, and the program's Parse.
-/
namespace Go.Proofs.YtlghcboenkglnaaGreatDoor
open Go.RowKit
set_option linter.unusedVariables false

/-- What a digit says; what digits say. -/
def hv (b : UInt8) : Option Nat := if 48 ≤ b.toNat ∧ b.toNat ≤ 57 then some (b.toNat - 48) else if 97 ≤ b.toNat ∧ b.toNat ≤ 102 then some (b.toNat - 87) else none
def hvI (b : UInt8) : Int := match hv b with | some d => (d : Int) | none => -1
def stepN (a : Option Nat) (b : UInt8) : Option Nat := match a, hv b with | some x, some d => some (16 * x + d) | _, _ => none
def numP (l : List UInt8) : Option Nat := l.foldl stepN (some 0)
theorem numP_snoc (l : List UInt8) (b : UInt8) : numP (l ++ [b]) = stepN (numP l) b := by simp [numP]
theorem fold_none (t : List UInt8) : t.foldl stepN none = none := by
  induction t with
  | nil => rfl
  | cons b t ih => exact ih
theorem numP_none {l : List UInt8} (t : List UInt8) (h : numP l = none) : numP (l ++ t) = none := by
  unfold numP at h ⊢
  rw [List.foldl_append, h, fold_none]
theorem hv_lt {b : UInt8} {d : Nat} (h : hv b = some d) : d < 16 := by
  unfold hv at h
  split at h
  · cases h; omega
  · split at h
    · cases h; omega
    · cases h
theorem hv_all : ∀ n, n < 256 → Lib.indexByte [48, 49, 50, 51, 52, 53, 54, 55, 56, 57, 97, 98, 99, 100, 101, 102] (UInt8.ofNat n) = hvI (UInt8.ofNat n) := by decide +kernel
theorem hv_idx (b : UInt8) : Lib.indexByte [48, 49, 50, 51, 52, 53, 54, 55, 56, 57, 97, 98, 99, 100, 101, 102] b = hvI b := by
  have := hv_all b.toNat b.toNat_lt
  simpa using this

/-- The place of a byte. -/
theorem idx_at {l : List UInt8} {c : UInt8} {k : Nat} (h : Lib.indexByte l c = (k : Int)) : l[k]? = some c := by
  induction l generalizing k with
  | nil => simp [Lib.indexByte] at h
  | cons b t ih =>
    unfold Lib.indexByte at h
    split at h
    · rename_i hb
      obtain rfl : k = 0 := by omega
      simpa using hb
    · split at h
      · omega
      · obtain ⟨j, rfl⟩ : ∃ j, k = j + 1 := ⟨k - 1, by have := Lib.indexByte_ge t c; simp at *; omega⟩
        simpa using ih (k := j) (by omega)
theorem idx_first {l : List UInt8} {c : UInt8} {k : Nat} (h : l[k]? = some c) (hn : ∀ b ∈ l.take k, b ≠ c) : Lib.indexByte l c = (k : Int) := by
  induction l generalizing k with
  | nil => simp at h
  | cons b t ih =>
    unfold Lib.indexByte
    cases k with
    | zero => simp at h; subst h; simp
    | succ j =>
      have hb : b ≠ c := hn b (by simp)
      have := ih (k := j) (by simpa using h) (fun x hx => hn x (by simp [hx]))
      rw [if_neg (by simpa using hb), this, if_neg (by simp)]
      omega

theorem ext_list (s : ByteArray) (a b : Nat) : (s.extract a b).data.toList = (s.data.toList.take b).drop a := by
  rw [ByteArray.data_extract]
  simp [List.extract_eq_take_drop, List.drop_take]
theorem ext_size (s : ByteArray) (k : Nat) (hk : k ≤ s.size) : (s.extract 0 k).size = k := by
  rw [ByteArray.size_extract]; omega

/-- What a name says: the log, the base. -/
def parseR (s : ByteArray) : Option (ByteArray × Nat) :=
  if s.size < 16 then none
  else match numP (s.data.toList.drop (s.size - 14)) with
    | none => none
    | some x => if logB (s.extract 0 (s.size - 15)) = true ∧ s.data.toList[s.size - 15]? = some 45 ∧ x ≤ 9007199254740992 then some (s.extract 0 (s.size - 15), x) else none
/-- What Parse answers. -/
def parseV (s : ByteArray) : Value := match parseR s with
  | none => .tuple #[.string ⟨#[]⟩, .int .i64 0, .bool false]
  | some (a, x) => .tuple #[.string a, .int .i64 (x : Int), .bool true]

theorem log_no {s : ByteArray} (h : logB s = true) : ∀ b ∈ s.data.toList, b ≠ 45 := by
  intro b hb e
  unfold logB at h
  simp only [Bool.and_eq_true, List.all_eq_true] at h
  have := h.2 b hb
  subst e
  simp [okl] at this

/-- Where the hyphen is not, or the rest has not fourteen bytes, nothing is said. -/
theorem parse_no {s : ByteArray} (h : ∀ k : Nat, Lib.indexByte s.data.toList 45 = (k : Int) → logB (s.extract 0 k) = true → s.size - (k + 1) ≠ 14) : parseR s = none := by
  unfold parseR
  split
  · rfl
  · rename_i h16
    split
    · rfl
    · rename_i x hx
      split
      · rename_i hc
        obtain ⟨h1, h2, h3⟩ := hc
        have hi : Lib.indexByte s.data.toList 45 = ((s.size - 15 : Nat) : Int) := idx_first h2 (fun b hb => log_no h1 b (by rw [ext_list]; simpa using hb))
        exact absurd (by omega) (h _ hi h1)
      · rfl
theorem parse_yes {s : ByteArray} {k : Nat} (hi : Lib.indexByte s.data.toList 45 = (k : Int)) (hl : logB (s.extract 0 k) = true) (hk : k ≤ s.size) (h14 : s.size - (k + 1) = 14) :
    parseR s = match numP (s.data.toList.drop (k + 1)) with | none => none | some x => if x ≤ 9007199254740992 then some (s.extract 0 k, x) else none := by
  have h1 : 1 ≤ k := by
    unfold logB at hl
    simp only [Bool.and_eq_true, decide_eq_true_eq] at hl
    have := hl.1.1
    rw [ext_size s k hk] at this
    exact this
  have e1 : s.size - 15 = k := by omega
  have e2 : s.size - 14 = k + 1 := by omega
  unfold parseR
  rw [if_neg (by omega), e1, e2]
  split
  · rfl
  · simp [hl, idx_at hi]
end Go.Proofs.YtlghcboenkglnaaGreatDoor

/-
  Parse, the program's.
-/
namespace Go.Proofs.YtlghcboenkglnaaGreatDoor
open Go.RowKit
set_option linter.unusedVariables false

theorem digit_any (w : World) (b : UInt8) : Calls Tryz.prog 95 #[.string ⟨#[48, 49, 50, 51, 52, 53, 54, 55, 56, 57, 97, 98, 99, 100, 101, 102]⟩, .int .u8 b.toNat] w fun e w' => e = .returned (.int .i64 (hvI b)) ∧ w' = w := by
  have h := place12 ⟨#[48, 49, 50, 51, 52, 53, 54, 55, 56, 57, 97, 98, 99, 100, 101, 102]⟩ (b.toNat : Int) w
  have e : ((b.toNat : Int).toNat.toUInt8) = b := by simp
  rw [e] at h
  have e2 := hv_idx b
  rw [← e2]
  exact h
theorem fold_lt (l : List UInt8) : ∀ (a x : Nat), l.foldl stepN (some a) = some x → x < (a + 1) * 16 ^ l.length := by
  induction l with
  | nil => intro a x h; simp at h; subst h; simp
  | cons b t ih =>
    intro a x h
    rw [List.foldl_cons] at h
    cases hd : hv b with
    | none =>
      have e : stepN (some a) b = none := by simp [stepN, hd]
      rw [e, fold_none] at h
      cases h
    | some d =>
      have e : stepN (some a) b = some (16 * a + d) := by simp [stepN, hd]
      rw [e] at h
      have h1 := ih _ _ h
      have h2 := hv_lt hd
      have h3 : (16 * a + d + 1) * 16 ^ t.length ≤ (16 * (a + 1)) * 16 ^ t.length := Nat.mul_le_mul_right _ (by omega)
      rw [List.length_cons, Nat.pow_succ, Nat.mul_comm (16 ^ t.length) 16, ← Nat.mul_assoc, Nat.mul_comm (a + 1) 16]
      omega
theorem numP_lt {l : List UInt8} {x : Nat} (h : numP l = some x) : x < 16 ^ l.length := by
  have := fold_lt l 0 x h
  simpa using this

set_option maxRecDepth 100000 in
set_option maxHeartbeats 2000000 in
theorem parse_any (w : World) (s : ByteArray) (hs : s.size ≤ maxLen) : Calls Tryz.prog 47 #[.string s] w fun e w' => e = .returned (parseV s) ∧ w.grownBy w' none := by
  go_enter Tryz.func47, Tryz.ntmps47
  go_wp2_with fail
  refine (cut11 s w hs).mono ?_
  rintro e w1 ⟨(⟨k, hk, hk2, rfl⟩ | ⟨hk, rfl⟩), hg⟩
  · have hlo := isLog_any w1 (s.extract 0 k)
    obtain ⟨a, ha⟩ : ∃ a, Hid (s.extract 0 k = a) := ⟨_, (rfl : s.extract 0 k = s.extract 0 k)⟩
    obtain ⟨t, ht⟩ : ∃ t, Hid (s.extract (k + 1) s.size = t) := ⟨_, (rfl : s.extract (k + 1) s.size = s.extract (k + 1) s.size)⟩
    have hts : t.size = s.size - (k + 1) := by rw [← ht.out, ByteArray.size_extract]; omega
    have htl : t.data.toList = s.data.toList.drop (k + 1) := by rw [← ht.out, ext_list, List.take_of_length_le (by show s.data.toList.length ≤ _; exact Nat.le_refl _)]
    rw [ha.out] at hlo ⊢
    rw [ht.out]
    cases hl : logB a
    · have hno : Hid (parseV s = .tuple #[.string ⟨#[]⟩, .int .i64 0, .bool false]) := by
        show _ = _
        unfold parseV
        rw [parse_no (fun j hj hl2 => by
          obtain rfl : j = k := by have := hk.symm.trans hj; omega
          rw [ha.out, hl] at hl2
          cases hl2)]
      rw [hl] at hlo
      clear hk hts htl
      go_wp2_with fail
      refine hlo.mono ?_
      rintro e w2 ⟨rfl, rfl⟩
      go_wp2
      go_ret3
      exact ⟨congrArg Ending.returned hno.out.symm, hg⟩
    · rw [hl] at hlo
      by_cases h14 : s.size - (k + 1) = 14
      · have hyes := parse_yes hk (by rw [ha.out]; exact hl) (by omega) h14
        rw [ha.out, ← htl] at hyes
        have hy2 : Hid _ := hyes
        have hts2 : t.size = 14 := by omega
        have hlen : Hid (t.data.toList.length = 14) := hts2
        have dt : ((t.size : Int) != 14) = false := by simp; omega
        clear hk hts htl hyes h14
        go_wp2_with fail
        refine hlo.mono ?_
        clear hlo
        rintro e w2 ⟨rfl, rfl⟩
        go_wp2_with fail
        go_loop [8, 25] (fun v8 v25 => ∃ i x : Nat, i ≤ 14 ∧ v25 = .int .i64 i ∧ v8 = .int .i64 x ∧ Hid (numP (t.data.toList.take i) = some x)) (fun _ v25 => 14 - (intOf v25).toNat)
        case atStart => exact ⟨0, 0, by omega, rfl, rfl, (rfl : numP [] = some 0)⟩
        case round =>
          obtain ⟨i, x, hi, rfl, rfl, hnum⟩ := hrel
          have hxl : x < 16 ^ i := by have := numP_lt hnum.out; rw [List.length_take, hlen.out, Nat.min_eq_left hi] at this; exact this
          by_cases hlt : i < 14
          · have hxl2 : x < 4503599627370496 := Nat.lt_of_lt_of_le hxl (Nat.le_trans (Nat.pow_le_pow_right (by decide) (by omega : i ≤ 13)) (by decide))
            have d1 : decide ((i : Int) < 14) = true := by simp; omega
            have hi1 : (0 : Int) ≤ (i : Int) := by omega
            have hi2 : (i : Int) < (t.size : Int) := by omega
            have hi3 : (i : Int) < 14 := by omega
            have hit : i < t.size := by omega
            have hdi := digit_any w2 t[i]
            have htk := ba_take t i hit
            have hst := numP_snoc (t.data.toList.take i) t[i]
            rw [← htk, hnum.out] at hst
            clear htk hxl
            cases hd : hv t[i] with
            | none =>
              have hno : Hid (parseV s = .tuple #[.string ⟨#[]⟩, .int .i64 0, .bool false]) := by
                show _ = _
                have e1 : numP t.data.toList = none := by
                  rw [← List.take_append_drop (i + 1) t.data.toList]
                  exact numP_none _ (by rw [hst]; simp [stepN, hd])
                have e2 := hy2.out
                rw [e1] at e2
                unfold parseV
                rw [e2]
              have hv1 : hvI t[i] = -1 := by simp [hvI, hd]
              rw [hv1] at hdi
              clear hst hd hv1
              go_wp2_with fail
              refine hdi.mono ?_
              rintro e w3 ⟨rfl, rfl⟩
              go_wp2
              go_ret3
              exact ⟨congrArg Ending.returned hno.out.symm, hg⟩
            | some d =>
              have hdl := hv_lt hd
              have hv1 : hvI t[i] = (d : Int) := by simp [hvI, hd]
              rw [hv1] at hdi
              have hnx : Hid (numP (t.data.toList.take (i + 1)) = some (16 * x + d)) := by show _ = _; rw [hst]; simp [stepN, hd]
              have d2 : decide ((d : Int) < 0) = false := by simp
              have hws : IntKind.i64.wrap ((x : Int) * 16) = ((16 * x : Nat) : Int) := by rw [IntWalk.i64_in _ (by omega)]; omega
              have hwt : IntKind.i64.wrap (((16 * x : Nat) : Int) + (d : Int)) = ((16 * x + d : Nat) : Int) := by rw [IntWalk.i64_in _ (by omega)]; omega
              clear hst hd hv1
              go_wp2_with fail
              refine hdi.mono ?_
              rintro e w3 ⟨rfl, rfl⟩
              go_wp2
              go_round
              case rel => exact ⟨i + 1, 16 * x + d, by omega, by go_num, by go_num, hnx⟩
              case measure => simp [intOf]; omega
          · obtain rfl : i = 14 := by omega
            have d1 : decide ((14 : Int) < 14) = false := by decide
            have e1 := hnum.out
            rw [List.take_of_length_le (by rw [hlen.out]; exact Nat.le_refl _)] at e1
            have e2 := hy2.out
            rw [e1] at e2
            by_cases hx : x ≤ 9007199254740992
            · have d2 : decide ((9007199254740992 : Int) < (x : Int)) = false := by simp; omega
              have hyv : Hid (parseV s = .tuple #[.string a, .int .i64 (x : Int), .bool true]) := by
                show _ = _
                unfold parseV
                rw [e2]
                simp [hx]
              clear e1 e2
              go_wp2
              go_ret3
              exact ⟨congrArg Ending.returned hyv.out.symm, hg⟩
            · have d2 : decide ((9007199254740992 : Int) < (x : Int)) = true := by simp; omega
              have hno : Hid (parseV s = .tuple #[.string ⟨#[]⟩, .int .i64 0, .bool false]) := by
                show _ = _
                unfold parseV
                rw [e2]
                simp [hx]
              clear e1 e2
              go_wp2
              go_ret3
              exact ⟨congrArg Ending.returned hno.out.symm, hg⟩
      · have hno : Hid (parseV s = .tuple #[.string ⟨#[]⟩, .int .i64 0, .bool false]) := by
          show _ = _
          unfold parseV
          rw [parse_no (fun j hj hl2 => by
            obtain rfl : j = k := by have := hk.symm.trans hj; omega
            exact h14)]
        have dt : ((t.size : Int) != 14) = true := by simp; omega
        clear hk hts htl
        go_wp2_with fail
        refine hlo.mono ?_
        rintro e w2 ⟨rfl, rfl⟩
        go_wp2
        go_ret3
        exact ⟨congrArg Ending.returned hno.out.symm, hg⟩
  · have hno : Hid (parseV s = .tuple #[.string ⟨#[]⟩, .int .i64 0, .bool false]) := by
      show _ = _
      unfold parseV
      rw [parse_no (fun j hj hl2 => by omega)]
    have hlo := isLog_any w1 s
    clear hk
    go_wp2_with fail
    refine hlo.mono ?_
    rintro e w2 ⟨rfl, rfl⟩
    cases hl : logB s
    · go_wp2
      go_ret3
      exact ⟨congrArg Ending.returned hno.out.symm, hg⟩
    · go_wp2
      go_ret3
      exact ⟨congrArg Ending.returned hno.out.symm, hg⟩
end Go.Proofs.YtlghcboenkglnaaGreatDoor

/-
  A segment on no disk; the law's example; SegmentNames: the walk.
-/
namespace Go.Proofs.YtlghcboenkglnaaGreatDoor
open Go.RowKit
set_option linter.unusedVariables false

theorem cell_at {w : World} {b : Nat} {c : Array Value} {e : TypeId} {fr : Nat × Nat} (h : w.heap[b]? = some (.cells c e fr)) {i : Nat} : w.cell? ⟨b, i, none⟩ = c[i]? := by simp [World.cell?, h]
theorem alloc_grown (w : World) (o : Obj) : w.grownBy (w.alloc o) none := World.grownBy_alloc w o none

theorem fz_at {w : World} {b : Nat} {c : Array Value} {e : TypeId} (h : w.heap[b]? = some (.cells c e)) (i : Nat) : w.frozen? ⟨b, i, none⟩ = false := by
  unfold World.frozen?
  rw [h]
  simp
theorem set_same {w : World} {b i : Nat} {c : Array Value} {t : TypeId} {v : Value} (h : w.heap[b]? = some (.cells c t)) (hi : c[i]? = some v) : w.setCell ⟨b, i, none⟩ v = w := by
  rw [setCell_eq_setRow w b i c t (0, 0) v h]
  have : c.setIfInBounds i v = c := by
    obtain ⟨hlt, hv⟩ := Array.getElem?_eq_some_iff.1 hi
    apply Array.ext'
    rw [Array.toList_setIfInBounds, ← hv, ← Array.getElem_toList hlt, List.set_getElem_self]
  rw [this]
  exact setRow_self w b c t (0, 0) h
set_option maxRecDepth 100000 in
theorem made28_nil (w : World) : Calls Tryz.prog 79 #[.pointer none] w fun e w' => e = .returned (.bool false) ∧ w' = w := by
  go_enter Tryz.func79, Tryz.ntmps79
  go_wp2
  go_ret
  exact ⟨rfl, rfl⟩
set_option maxRecDepth 100000 in
theorem known22_nil (w : World) (s : ByteArray) : Calls Tryz.prog 85 #[.pointer none, .string s] w fun e w' => e = .returned (.tuple #[.pointer none, .int .i64 1]) ∧ w' = w := by
  go_enter Tryz.func85, Tryz.ntmps85
  go_wp2_with fail
  refine (made28_nil _).mono ?_
  rintro e w1 ⟨rfl, rfl⟩
  go_wp2
  go_ret2
  exact ⟨rfl, rfl⟩
def told0 : Value := .agg #[.string ⟨#[]⟩, .int .i64 0, .int .i64 0, .bool false, .bool false]
set_option maxRecDepth 100000 in
theorem file27_nil (w : World) (s : ByteArray) : Calls Tryz.prog 36 #[.pointer none, .string s] w fun e w' => e = .returned (.tuple #[told0, .int .i64 1]) ∧ w.grownBy w' none := by
  go_enter Tryz.func36, Tryz.ntmps36
  go_wp2_with fail
  refine (known22_nil _ _).mono ?_
  rintro e w1 ⟨rfl, rfl⟩
  go_wp2
  obtain ⟨W, hW⟩ : ∃ W, w.alloc (.cells #[.string ⟨#[]⟩, .int .i64 0, .int .i64 0, .bool false, .bool false] 82) = W := ⟨_, rfl⟩
  have hk : W.heap[w.heap.size]? = some (.cells #[.string ⟨#[]⟩, .int .i64 0, .int .i64 0, .bool false, .bool false] 82) := by rw [← hW]; exact World.alloc_heap_new _ _
  have hg : w.grownBy W none := by rw [← hW]; exact alloc_grown _ _
  rw [hW]
  clear hW
  have v0 := cell_at hk (i := 0)
  have v1 := cell_at hk (i := 1)
  have v2 := cell_at hk (i := 2)
  have v3 := cell_at hk (i := 3)
  have v4 := cell_at hk (i := 4)
  simp only [List.getElem?_toArray, List.getElem?_cons_zero, List.getElem?_cons_succ] at v0 v1 v2 v3 v4
  exact bodyPost_ret (v := .tuple #[told0, .int .i64 1]) (by simp [results, Tryz.results36, go_sem, v0, v1, v2, v3, v4, told0]) rfl ⟨rfl, hg⟩
set_option maxRecDepth 100000 in
theorem made20_nil (w : World) : Calls Tryz.prog 96 #[.pointer none] w fun e w' => e = .returned (.bool false) ∧ w.grownBy w' none := by
  go_enter Tryz.func96, Tryz.ntmps96
  go_wp2_with fail
  refine (file27_nil _ _).mono ?_
  unfold told0
  rintro e w1 ⟨rfl, hg⟩
  go_wp2
  go_ret
  exact ⟨rfl, grown_trans hg (alloc_grown _ _) (by simp)⟩
def file0 : Value := .agg #[.int .i64 0, .int .i64 0, .int .i64 0, .int .i64 0, .pointer none, .string ⟨#[]⟩, .int .i64 0, .pointer none]
set_option maxRecDepth 100000 in
set_option maxHeartbeats 1000000 in
theorem fileOf_nil (w : World) (s : ByteArray) (n : Int) : Calls Tryz.prog 50 #[.pointer none, .string s, .int .i64 n] w fun e w' => e = .returned (.tuple #[file0, .int .i64 1]) ∧ w.grownBy w' none := by
  obtain ⟨W, hW⟩ : ∃ W, w.alloc (.cells #[.int .i64 0, .int .i64 0, .int .i64 0, .int .i64 0, .pointer none, .string ⟨#[]⟩, .int .i64 0, .pointer none] 102) = W := ⟨_, rfl⟩
  have hk : W.heap[w.heap.size]? = some (.cells #[.int .i64 0, .int .i64 0, .int .i64 0, .int .i64 0, .pointer none, .string ⟨#[]⟩, .int .i64 0, .pointer none] 102) := by rw [← hW]; exact World.alloc_heap_new _ _
  have hg0 : w.grownBy W none := by rw [← hW]; exact alloc_grown _ _
  go_enter Tryz.func50, Tryz.ntmps50
  go_wp2_with fail
  try rw [hW]
  refine (made20_nil _).mono ?_
  rintro e w1 ⟨rfl, hg1⟩
  have hk1 : w1.heap[w.heap.size]? = _ := (hg1.block _ (Array.getElem?_eq_some_iff.1 hk).1 (by simp)).trans hk
  have hg := grown_trans hg0 hg1 (by simp)
  have v0 := cell_at hk1 (i := 0)
  have v1 := cell_at hk1 (i := 1)
  have v2 := cell_at hk1 (i := 2)
  have v3 := cell_at hk1 (i := 3)
  have v4 := cell_at hk1 (i := 4)
  have v5 := cell_at hk1 (i := 5)
  have v6 := cell_at hk1 (i := 6)
  have v7 := cell_at hk1 (i := 7)
  simp only [List.getElem?_toArray, List.getElem?_cons_zero, List.getElem?_cons_succ] at v0 v1 v2 v3 v4 v5 v6 v7
  have f0 := fz_at hk1 0
  have f1 := fz_at hk1 1
  have f2 := fz_at hk1 2
  have f3 := fz_at hk1 3
  have f4 := fz_at hk1 4
  have f5 := fz_at hk1 5
  have f6 := fz_at hk1 6
  have f7 := fz_at hk1 7
  clear hg0 hg1
  go_wp2
  rw [set_same hk1 (i := 0) (v := .int .i64 0) rfl, set_same hk1 (i := 1) (v := .int .i64 0) rfl, set_same hk1 (i := 2) (v := .int .i64 0) rfl, set_same hk1 (i := 3) (v := .int .i64 0) rfl, set_same hk1 (i := 4) (v := .pointer none) rfl, set_same hk1 (i := 5) (v := .string ⟨#[]⟩) rfl, set_same hk1 (i := 6) (v := .int .i64 0) rfl, set_same hk1 (i := 7) (v := .pointer none) rfl]
  exact bodyPost_ret (v := .tuple #[file0, .int .i64 1]) (by simp [results, Tryz.results50, go_sem, v0, v1, v2, v3, v4, v5, v6, v7, file0]) rfl ⟨rfl, hg⟩

theorem log_p : logB ⟨#[112]⟩ = true := by decide +kernel
set_option maxRecDepth 100000 in
set_option maxHeartbeats 1000000 in
theorem create_nil (w : World) (x : Nat) (hx : x ≤ 9007199254740992) (n : Int) : Calls Tryz.prog 12 #[.pointer none, .string ⟨#[112]⟩, .int .i64 x, .int .i64 n] w fun e w' => e = .returned (.tuple #[.pointer none, .int .i64 1]) ∧ w.grownBy w' none := by
  go_enter Tryz.func12, Tryz.ntmps12
  go_wp2_with fail
  refine (name_ok w ⟨#[112]⟩ x log_p hx).mono ?_
  rintro e w1 ⟨rfl, hg1⟩
  go_wp2_with fail
  refine (fileOf_nil w1 _ n).mono ?_
  unfold file0
  rintro e w2 ⟨rfl, hg2⟩
  have hg := grown_trans (grown_trans hg1 hg2 (by simp)) (alloc_grown w2 (.cells #[.int .i64 0, .int .i64 0, .int .i64 0, .int .i64 0, .pointer none, .string ⟨#[]⟩, .int .i64 0, .pointer none] 102)) (by simp)
  clear hg1 hg2
  go_wp2
  go_ret2
  exact ⟨rfl, hg⟩

theorem name_p : nameL ⟨#[112]⟩ 15 = [112, 45, 48, 48, 48, 48, 48, 48, 48, 48, 48, 48, 48, 48, 48, 102] := by decide +kernel
theorem parse_p : parseV ⟨#[112, 45, 48, 48, 48, 48, 48, 48, 48, 48, 48, 48, 48, 48, 48, 102]⟩ = .tuple #[.string ⟨#[112]⟩, .int .i64 15, .bool true] := by
  have : parseR ⟨#[112, 45, 48, 48, 48, 48, 48, 48, 48, 48, 48, 48, 48, 48, 48, 102]⟩ = some (⟨#[112]⟩, 15) := by decide +kernel
  unfold parseV
  rw [this]
  rfl

set_option maxRecDepth 100000 in
set_option maxHeartbeats 1000000 in
theorem known_any (w : World) : Calls Tryz.prog 9 #[] w fun e w' => e = .returned (.bool true) ∧ w.grownBy w' none := by
  have hna := name_ok w ⟨#[112]⟩ 15 log_p (by decide)
  rw [name_p] at hna
  go_enter Tryz.func9, Tryz.ntmps9
  go_wp2_with fail
  refine hna.mono ?_
  clear hna
  rintro e w1 ⟨rfl, hg1⟩
  have hpa := parse_any w1 ⟨#[112, 45, 48, 48, 48, 48, 48, 48, 48, 48, 48, 48, 48, 48, 48, 102]⟩ (by decide +kernel)
  rw [parse_p] at hpa
  go_wp2_with fail
  refine hpa.mono ?_
  clear hpa
  rintro e w2 ⟨rfl, hg2⟩
  have hG2 := grown_trans hg1 hg2 (by simp)
  have hcr := create_nil w2 0 (by decide) 1
  clear hg1 hg2
  go_wp2_with fail
  refine hcr.mono ?_
  clear hcr
  rintro e w3 ⟨rfl, hg3⟩
  have hG3 := grown_trans hG2 hg3 (by simp)
  clear hG2 hg3
  go_wp2
  go_ret
  exact ⟨rfl, hG3⟩

end Go.Proofs.YtlghcboenkglnaaGreatDoor
