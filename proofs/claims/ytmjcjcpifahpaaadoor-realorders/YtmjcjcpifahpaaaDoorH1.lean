/-
  A text read: the walks of its small parts.
-/
import Derived.Test.YtmjcjcpifahpaaaDoorG9
namespace Go.Proofs.YtmjcjcpifahpaaaDoor
open Go.RowKit Go.Shelf Go.Sort Go.Lib
set_option linter.unusedVariables false

/-- A text. -/
def str (l : List UInt8) : ByteArray := ⟨l.toArray⟩
theorem str_size (l : List UInt8) : (str l).size = l.length := by simp [str, ByteArray.size]
theorem str_toList (l : List UInt8) : (str l).toList = l := ByteArray.toList_mk l
theorem str_pos (c : UInt8) (l : List UInt8) : 0 < (str (c :: l)).size := by rw [str_size]; simp
theorem str_head (c : UInt8) (l : List UInt8) : (str (c :: l))[0]'(str_pos c l) = c := rfl
theorem str_tail (c : UInt8) (l : List UInt8) : (str (c :: l)).extract 1 (str (c :: l)).size = str l := by
  apply ByteArray.ext
  rw [ByteArray.data_extract, str_size]
  simp [str]
theorem str_first (c : UInt8) (l : List UInt8) : (str (c :: l)).extract 0 1 = str [c] := by
  apply ByteArray.ext
  rw [ByteArray.data_extract]
  simp [str]
theorem str_inj {l k : List UInt8} (h : str l = str k) : l = k := by
  have h1 := str_toList l
  rw [h, str_toList] at h1
  exact h1.symm

/-- The digit with which a text begins. -/
def dgt : List UInt8 → Int
  | [] => -1
  | c :: _ => if dv c = true then (c.toNat : Int) - 48 else -1
theorem dgt_yes {c : UInt8} (l : List UInt8) (h1 : 48 ≤ (c.toNat : Int)) (h2 : (c.toNat : Int) ≤ 57) : dgt (c :: l) = (c.toNat : Int) - 48 := by
  have : dv c = true := by unfold dv; simp; omega
  simp [dgt, this]
theorem dgt_no {c : UInt8} (l : List UInt8) (h : (c.toNat : Int) < 48 ∨ 57 < (c.toNat : Int)) : dgt (c :: l) = -1 := by
  have : dv c = false := by unfold dv; simp; omega
  simp [dgt, this]

set_option maxHeartbeats 400000 in
theorem digit_core (w : World) (s : ByteArray) (c : UInt8) (l : List UInt8) (hpos : 0 < s.size) (h0 : s[0] = c) (ht : s.toList = c :: l) : Calls Tryd.prog 67 #[.string s] w fun e w' => e = .returned (.int .i64 (dgt (c :: l))) ∧ w' = w := by
  by_cases h1 : (c.toNat : Int) < 48
  · have H : Hid (dgt (c :: l) = -1) := dgt_no l (Or.inl h1)
    go_enter Tryd.func67, Tryd.ntmps67
    go_wp2
    go_ret
    exact ⟨ret_int H.out.symm, rfl⟩
  · by_cases h2 : 57 < (c.toNat : Int)
    · have H : Hid (dgt (c :: l) = -1) := dgt_no l (Or.inr h2)
      go_enter Tryd.func67, Tryd.ntmps67
      go_wp2
      go_ret
      exact ⟨ret_int H.out.symm, rfl⟩
    · have H : Hid (dgt (c :: l) = (c.toNat : Int) - 48) := dgt_yes l (by omega) (by omega)
      go_enter Tryd.func67, Tryd.ntmps67
      go_wp2
      go_ret
      exact ⟨ret_int H.out.symm, rfl⟩

set_option maxHeartbeats 400000 in
theorem digit_any (w : World) (l : List UInt8) : Calls Tryd.prog 67 #[.string (str l)] w fun e w' => e = .returned (.int .i64 (dgt l)) ∧ w' = w := by
  cases l with
  | nil =>
    have ht := str_toList []
    generalize str [] = s at *
    go_enter Tryd.func67, Tryd.ntmps67
    go_wp2
    go_ret
    exact ⟨rfl, rfl⟩
  | cons c l => exact digit_core w (str (c :: l)) c l (str_pos c l) (str_head c l) (str_toList _)

theorem ret_cut {A B : ByteArray} {b c : Bool} (h1 : A = B) (h2 : b = c) : Ending.returned (.tuple #[.string A, .bool b]) = .returned (.tuple #[.string B, .bool c]) := by rw [h1, h2]

set_option maxHeartbeats 400000 in
theorem cut_yes (w : World) (s q t : ByteArray) (c : UInt8) (hq : q.toList = [c]) (hqs : (q.size : Int) = 1) (h1 : 1 ≤ (s.size : Int)) (hbig : (s.size : Int) ≤ 9223372036854775807) (hf : s.extract 0 1 = q) (ht : s.extract 1 s.size = t) :
    Calls Tryd.prog 34 #[.string s, .string q] w fun e w' => e = .returned (.tuple #[.string t, .bool true]) ∧ w' = w := by
  go_enter Tryd.func34, Tryd.ntmps34
  go_wp2
  go_ret2
  exact ⟨rfl, rfl⟩
set_option maxHeartbeats 400000 in
theorem cut_no (w : World) (s q r : ByteArray) (c p : UInt8) (hq : q.toList = [p]) (hqs : (q.size : Int) = 1) (h1 : 1 ≤ (s.size : Int)) (hbig : (s.size : Int) ≤ 9223372036854775807) (hf : s.extract 0 1 = r) (hr : r.toList = [c]) (hne : (c == p) = false) :
    Calls Tryd.prog 34 #[.string s, .string q] w fun e w' => e = .returned (.tuple #[.string s, .bool false]) ∧ w' = w := by
  go_enter Tryd.func34, Tryd.ntmps34
  go_wp2
  go_ret2
  exact ⟨rfl, rfl⟩
set_option maxHeartbeats 400000 in
theorem cut_nil (w : World) (s q : ByteArray) (hqs : (q.size : Int) = 1) (hs : (s.size : Int) = 0) :
    Calls Tryd.prog 34 #[.string s, .string q] w fun e w' => e = .returned (.tuple #[.string s, .bool false]) ∧ w' = w := by
  go_enter Tryd.func34, Tryd.ntmps34
  go_wp2
  go_ret2
  exact ⟨rfl, rfl⟩
theorem cut_any (w : World) (p : UInt8) (l : List UInt8) (hl : l.length ≤ 9223372036854775807) : Calls Tryd.prog 34 #[.string (str l), .string (str [p])] w fun e w' => e = .returned (.tuple #[.string (str (cut p l).1), .bool (cut p l).2]) ∧ w' = w := by
  have hps : ((str [p]).size : Int) = 1 := by rw [str_size]; rfl
  cases l with
  | nil => exact cut_nil w (str []) (str [p]) hps (by rw [str_size]; rfl)
  | cons c l =>
    have hpos : 1 ≤ ((str (c :: l)).size : Int) := by rw [str_size]; simp; omega
    have hbig : ((str (c :: l)).size : Int) ≤ 9223372036854775807 := by rw [str_size]; omega
    by_cases h : c = p
    · subst h
      have H : cut c (c :: l) = (l, true) := by simp [cut]
      rw [H]
      exact cut_yes w (str (c :: l)) (str [c]) (str l) c (str_toList _) hps hpos hbig (str_first c l) (str_tail c l)
    · have H : cut p (c :: l) = (c :: l, false) := by simp [cut, h]
      rw [H]
      exact cut_no w (str (c :: l)) (str [p]) (str [c]) c p (str_toList _) hps hpos hbig (str_first c l) (str_toList _) (by simpa using h)
end Go.Proofs.YtmjcjcpifahpaaaDoor
