/-
  One call of a script on both readers, whatever it is.
-/
import Derived.Test.YtocicepnlepfeaaR6
import Derived.Test.YtocicepnlepfeaaR8
import Derived.Test.YtocicepnlepfeaaR9
import Derived.Test.YtocicepnlepfeaaR10
import Derived.Test.YtocicepnlepfeaaR11
namespace Go.Proofs.Ytocicepnlepfeaa
open Go.RowKit
set_option linter.unusedVariables false

theorem ask_lst (w : World) (b g o cp rb : Nat) (ao : Option Addr) (n cap : Nat) (L : List UInt8) (at' : Nat) (h : Both w b g o cp rb ao n cap L at') (N M : Int) (hN : N < 9223372036854775808) (hM : M < 9223372036854775808) :
    Calls Try.prog 31 #[.pointer (some ⟨b, 0, none⟩), .pointer (some ⟨rb, 0, none⟩), .agg #[.int .i64 7, .int .i64 N, .int .i64 M]] w fun e w' => AskOk w w' b g rb ao n cap L e := by
  by_cases harg : N < 0 ∨ M < 0
  · refine ask_lst_err w b g o cp rb ao n cap L at' h N M 2 (fun w0 h0 => (list_arg w0 b g o _ cp N M _ at' h0 harg).mono ?_) (fun w0 h0 => (refLst_arg w0 rb N M harg).mono ?_)
    · rintro e w' ⟨rfl, rfl⟩; exact ⟨rfl, grown_refl _ _⟩
    · rintro e w' ⟨rfl, rfl⟩; exact ⟨rfl, h0, grown_refl _ _⟩
  · obtain ⟨i, rfl⟩ : ∃ i : Nat, N = (i : Int) := ⟨N.toNat, by omega⟩
    obtain ⟨m, rfl⟩ : ∃ m : Nat, M = (m : Int) := ⟨M.toNat, by omega⟩
    have hlen := h.rf.left_len
    by_cases hn : n - at' < 4
    · exact ask_lst_err w b g o cp rb ao n cap L at' h i m 111 (fun w0 h0 => list_more w0 b g o _ cp i m _ at' h0 hn) (fun w0 h0 => refLst_more w0 rb ao n cap i m L at' h0 hn)
    · have hn4 : 4 ≤ n - at' := by omega
      obtain ⟨v, hv⟩ : ∃ v, v = val ((L.drop at').take 4) := ⟨_, rfl⟩
      have hvl : v < 4294967296 := by
        have h3 := val_lt ((L.drop at').take 4)
        rw [List.length_take, hlen, Nat.min_eq_left hn4, ← hv] at h3
        exact h3
      by_cases hiv : i < v
      · exact ask_lst_err w b g o cp rb ao n cap L at' h i m 110 (fun w0 h0 => list_never w0 b g o _ cp i m _ at' h0 (by omega) hn4 (by rw [← hv]; exact hiv)) (fun w0 h0 => refLst_never w0 rb ao n cap i m v L at' h0 (by omega) hn4 hv hvl hiv)
      · obtain ⟨ab, aof, hao, _⟩ := h.rf.bs.addr (by omega)
        subst hao
        by_cases hl : lErr m v (L.drop (at' + 4)) = 0
        · exact ask_lst_ok w b g o cp rb ab aof n cap L at' h i m v (by omega) (by omega) hn4 hv hvl (by omega) hl
        · refine ask_lst_err w b g o cp rb _ n cap L at' h i m ((lErr m v (L.drop (at' + 4)) : Nat) : Int) (fun w0 h0 => (list_any w0 b g o _ cp i m v _ at' h0 (by omega) (by omega) hn4 hv hvl (by omega)).mono ?_) (fun w0 h0 => (refLst_any w0 rb ab aof n cap i m v L at' h0 (by omega) (by omega) hn4 hv hvl (by omega)).mono ?_)
          · rw [List.drop_drop]
            rintro e w' (⟨h1, _⟩ | ⟨_, h2, h3⟩)
            · exact absurd h1 hl
            · exact ⟨h2, h3⟩
          · rintro e w' (⟨h1, _⟩ | ⟨_, h2, h3⟩)
            · exact absurd h1 hl
            · exact ⟨h2, h3⟩

theorem ask_skip (w : World) (b g o cp rb : Nat) (ao : Option Addr) (n cap : Nat) (L : List UInt8) (at' : Nat) (h : Both w b g o cp rb ao n cap L at') (N M : Int) :
    Calls Try.prog 31 #[.pointer (some ⟨b, 0, none⟩), .pointer (some ⟨rb, 0, none⟩), .agg #[.int .i64 8, .int .i64 N, .int .i64 M]] w fun e w' => AskOk w w' b g rb ao n cap L e := by
  by_cases h0 : N < 0
  · exact ask_skip_arg w b g o cp rb ao n cap L at' h N M h0
  · by_cases h1 : ((n - at' : Nat) : Int) < N
    · exact ask_skip_more w b g o cp rb ao n cap L at' h N M (by omega) h1
    · obtain ⟨i, rfl⟩ : ∃ i : Nat, N = (i : Int) := ⟨N.toNat, by omega⟩
      exact ask_skip_ok w b g o cp rb ao n cap L at' h i M (by omega)

theorem ask_rest (w : World) (b g o cp rb : Nat) (ao : Option Addr) (n cap : Nat) (L : List UInt8) (at' : Nat) (h : Both w b g o cp rb ao n cap L at') (hao : ao = none ∨ ∃ ab aof, ao = some ⟨ab, aof, none⟩) (N M : Int) :
    Calls Try.prog 31 #[.pointer (some ⟨b, 0, none⟩), .pointer (some ⟨rb, 0, none⟩), .agg #[.int .i64 9, .int .i64 N, .int .i64 M]] w fun e w' => AskOk w w' b g rb ao n cap L e := by
  have h1 := h.rf.le
  have h2 := h.rf.bs.room
  rcases hao with rfl | ⟨ab, aof, rfl⟩
  · have h3 := h.rf.bs.nil rfl
    obtain rfl : cap = 0 := h3
    obtain rfl : n = 0 := by omega
    obtain rfl : at' = 0 := by omega
    exact ask_rest_nil w b g o cp rb L h N M
  · by_cases hc : at' < cap
    · exact ask_rest_more w b g o cp rb ab aof n cap L at' h N M hc
    · obtain rfl : at' = n := by omega
      obtain rfl : cap = at' := by omega
      exact ask_rest_full w b g o cp rb ab aof cap L h N M

theorem ask_any (w : World) (b g o cp rb : Nat) (ao : Option Addr) (n cap : Nat) (L : List UInt8) (at' : Nat) (h : Both w b g o cp rb ao n cap L at') (hao : ao = none ∨ ∃ ab aof, ao = some ⟨ab, aof, none⟩) (K N M : Int) (hN : N < 9223372036854775808) (hM : M < 9223372036854775808) :
    Calls Try.prog 31 #[.pointer (some ⟨b, 0, none⟩), .pointer (some ⟨rb, 0, none⟩), .agg #[.int .i64 K, .int .i64 N, .int .i64 M]] w fun e w' => AskOk w w' b g rb ao n cap L e := by
  by_cases hK : K < 0 ∨ 9 < K
  · exact ask_none w b g o cp rb ao n cap L at' h K N M hK
  · by_cases h6 : K < 6
    · exact ask_words w b g o cp rb ao n cap L at' h K N M (by omega)
    · obtain rfl | rfl | rfl | rfl : K = 6 ∨ K = 7 ∨ K = 8 ∨ K = 9 := by omega
      · exact ask_str w b g o cp rb ao n cap L at' h N M hM
      · exact ask_lst w b g o cp rb ao n cap L at' h N M hN hM
      · exact ask_skip w b g o cp rb ao n cap L at' h N M
      · exact ask_rest w b g o cp rb ao n cap L at' h hao N M

end Go.Proofs.Ytocicepnlepfeaa
