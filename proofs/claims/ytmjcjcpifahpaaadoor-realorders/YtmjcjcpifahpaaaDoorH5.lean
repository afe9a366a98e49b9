/-
  A text read: the walks of readSize, Read.
-/
import Derived.Test.YtmjcjcpifahpaaaDoorH4
namespace Go.Proofs.YtmjcjcpifahpaaaDoor
open Go.RowKit Go.Shelf Go.Sort Go.Lib
set_option linter.unusedVariables false

theorem ret_sz {a b : Int} {x y : Bool} (h1 : a = b) (h2 : x = y) : Ending.returned (.tuple #[.int .u64 a, .bool x]) = .returned (.tuple #[.int .u64 b, .bool y]) := by rw [h1, h2]

set_option maxRecDepth 100000 in
set_option maxHeartbeats 1000000 in
theorem rs_zero (w : World) (s : ByteArray) (l : List UInt8) (hs : s.toList = l) (hq : (l == [48]) = true) :
    Calls Tryd.prog 35 #[.string s] w fun e w' => e = .returned (.tuple #[.int .u64 0, .bool true]) ∧ w' = w := by
  go_enter Tryd.func35, Tryd.ntmps35
  go_wp2
  go_ret2
  exact ⟨rfl, rfl⟩
set_option maxRecDepth 100000 in
set_option maxHeartbeats 1000000 in
theorem rs_inf (w : World) (s : ByteArray) (l : List UInt8) (hs : s.toList = l) (hq : (l == [48]) = false) (hq1 : (l == [105, 110, 102]) = true) :
    Calls Tryd.prog 35 #[.string s] w fun e w' => e = .returned (.tuple #[.int .u64 9218868437227405312, .bool true]) ∧ w' = w := by
  go_enter Tryd.func35, Tryd.ntmps35
  go_wp2
  go_ret2
  exact ⟨rfl, rfl⟩
set_option maxRecDepth 100000 in
set_option maxHeartbeats 1000000 in
theorem rs_none (w : World) (s : ByteArray) (l : List UInt8) (hs : s.toList = l) (hq : (l == [48]) = false) (hq1 : (l == [105, 110, 102]) = false)
    (hrp2 : ∀ W, Calls Tryd.prog 54 #[.string s] W fun e w' => e = .returned (.tuple #[.int .u64 0, .int .i64 0, .bool false]) ∧ w' = W) :
    Calls Tryd.prog 35 #[.string s] w fun e w' => e = .returned (.tuple #[.int .u64 0, .bool false]) ∧ w' = w := by
  go_enter Tryd.func35, Tryd.ntmps35
  go_wp2_with (go_at_call 54; refine (hrp2 _).mono ?_; rintro e w1 ⟨rfl, rfl⟩)
  go_ret2
  exact ⟨rfl, rfl⟩
set_option maxRecDepth 100000 in
set_option maxHeartbeats 1000000 in
theorem rs_over (w : World) (s : ByteArray) (l : List UInt8) (hs : s.toList = l) (hq : (l == [48]) = false) (hq1 : (l == [105, 110, 102]) = false) (m B : Nat) (e : Int) (hB : B ≤ 53) (hlo : -1074 ≤ e) (hhi : e ≤ 1074) (hb : 1024 < e + (B : Int))
    (hrp2 : ∀ W, Calls Tryd.prog 54 #[.string s] W fun r w' => r = .returned (.tuple #[.int .u64 m, .int .i64 e, .bool true]) ∧ w' = W) (hl64 : ∀ W, Calls Tryd.prog 55 #[.int .u64 m] W fun r w' => r = .returned (.int .i64 B) ∧ w' = W) :
    Calls Tryd.prog 35 #[.string s] w fun e w' => e = .returned (.tuple #[.int .u64 0, .bool false]) ∧ w' = w := by
  go_enter Tryd.func35, Tryd.ntmps35
  go_wp2_with (first
    | (go_at_call 54; refine (hrp2 _).mono ?_; rintro e w1 ⟨rfl, rfl⟩)
    | (go_at_call 55; refine (hl64 _).mono ?_; rintro e w1 ⟨rfl, rfl⟩))
  go_ret2
  exact ⟨rfl, rfl⟩
set_option maxRecDepth 100000 in
set_option maxHeartbeats 1000000 in
theorem rs_ok (w : World) (s : ByteArray) (l : List UInt8) (hs : s.toList = l) (hq : (l == [48]) = false) (hq1 : (l == [105, 110, 102]) = false) (m B J : Nat) (e : Int) (hB : B ≤ 53) (hlo : -1074 ≤ e) (hhi : e ≤ 1074) (hb : e + (B : Int) ≤ 1024)
    (hrp2 : ∀ W, Calls Tryd.prog 54 #[.string s] W fun r w' => r = .returned (.tuple #[.int .u64 m, .int .i64 e, .bool true]) ∧ w' = W) (hl64 : ∀ W, Calls Tryd.prog 55 #[.int .u64 m] W fun r w' => r = .returned (.int .i64 B) ∧ w' = W)
    (hj : ∀ W, Calls Tryd.prog 56 #[.int .u64 m, .int .i64 e] W fun r w' => r = .returned (.int .u64 J) ∧ w' = W) :
    Calls Tryd.prog 35 #[.string s] w fun e w' => e = .returned (.tuple #[.int .u64 J, .bool true]) ∧ w' = w := by
  go_enter Tryd.func35, Tryd.ntmps35
  go_wp2_with (first
    | (go_at_call 54; refine (hrp2 _).mono ?_; rintro e w1 ⟨rfl, rfl⟩)
    | (go_at_call 55; refine (hl64 _).mono ?_; rintro e w1 ⟨rfl, rfl⟩)
    | (go_at_call 56; refine (hj _).mono ?_; rintro e w1 ⟨rfl, rfl⟩))
  go_ret2
  exact ⟨rfl, rfl⟩

theorem rsz_ok {l : List UInt8} {m : Nat} {e : Int} (h0 : ¬ l = [48]) (h1 : ¬ l = [105, 110, 102]) (hc : rdp l = some (m, e)) (hb : ¬ e + (Lib.bitLen m : Int) > 1024) : rsz l = some (jn m e) := by
  unfold rsz
  rw [if_neg h0, if_neg h1, hc]
  simp only
  rw [if_neg hb]
theorem rs_fin (w : World) (l : List UInt8) (hs : (str l).toList = l) (hq : (l == [48]) = false) (hq1 : (l == [105, 110, 102]) = false) (m J : Nat) (e : Int) (hodd : m % 2 = 1) (hlt : m < 9007199254740992) (hlo : -1074 ≤ e) (hhi : e ≤ 1074) (hbl : Lib.bitLen m ≤ 53) (hb : ¬ e + (Lib.bitLen m : Int) > 1024)
    (hrp : ∀ W, Calls Tryd.prog 54 #[.string (str l)] W fun r w' => r = .returned (rdpV (some (m, e))) ∧ w' = W) (hj : ∀ W, Calls Tryd.prog 56 #[.int .u64 m, .int .i64 e] W fun r w' => r = .returned (.int .u64 J) ∧ w' = W) :
    Calls Tryd.prog 35 #[.string (str l)] w fun e w' => e = .returned (.tuple #[.int .u64 (J : Int), .bool true]) ∧ w' = w :=
  rs_ok w (str l) l hs hq hq1 m (Lib.bitLen m) J e hbl hlo hhi (by omega) hrp (fun W => len64_any W m (by omega)) hj
theorem okp {m : Nat} {e : Int} (hodd : m % 2 = 1) (hlt : m < 9007199254740992) (hlo : -1074 ≤ e) (hb : ¬ e + (Lib.bitLen m : Int) > 1024) : OkP m e := ⟨hodd, hlt, hlo, by omega⟩
theorem sz_some (w : World) (l : List UInt8) (J : Nat) (H : rsz l = some J) (h : Calls Tryd.prog 35 #[.string (str l)] w fun e w' => e = .returned (.tuple #[.int .u64 (J : Int), .bool true]) ∧ w' = w) :
    Calls Tryd.prog 35 #[.string (str l)] w fun e w' => e = .returned (.tuple #[.int .u64 (((rsz l).getD 0 : Nat) : Int), .bool (rsz l).isSome]) ∧ w' = w := by
  rw [H]
  exact h

theorem readSize_any (w : World) (l : List UInt8) (hL : l.length ≤ 9223372036854775807) :
    Calls Tryd.prog 35 #[.string (str l)] w fun e w' => e = .returned (.tuple #[.int .u64 (((rsz l).getD 0 : Nat) : Int), .bool (rsz l).isSome]) ∧ w' = w := by
  have hs := str_toList l
  have hrp := fun W => rp_any W l hL
  by_cases h0 : l = [48]
  · have H : rsz l = some 0 := by unfold rsz; rw [if_pos h0]
    rw [H]
    exact rs_zero w _ l hs (by simpa using h0)
  · have hq : (l == [48]) = false := by simpa using h0
    by_cases h1 : l = [105, 110, 102]
    · have H : rsz l = some 9218868437227405312 := by unfold rsz; rw [if_neg h0, if_pos h1]
      rw [H]
      exact (rs_inf w _ l hs hq (by simpa using h1)).mono fun e w' ⟨h1, h2⟩ => ⟨h1.trans (ret_sz (by simp only [Option.getD_some]; omega) rfl), h2⟩
    · have hq1 : (l == [105, 110, 102]) = false := by simpa using h1
      cases hc : rdp l with
      | none =>
        rw [hc] at hrp
        have H : rsz l = none := by unfold rsz; rw [if_neg h0, if_neg h1, hc]
        rw [H]
        exact rs_none w _ l hs hq hq1 hrp
      | some me =>
        obtain ⟨m, e⟩ := me
        obtain ⟨-, hodd, hlt, hlo, hhi⟩ := rdp_some hc
        rw [hc] at hrp
        have hl64 := fun W => len64_any W m (by omega)
        have hbl : Lib.bitLen m ≤ 53 := Lib.bitLen_le m 53 (by omega) (by rw [two53]; exact hlt)
        by_cases hb : e + (Lib.bitLen m : Int) > 1024
        · have H : rsz l = none := by unfold rsz; rw [if_neg h0, if_neg h1, hc]; simp only; rw [if_pos hb]
          rw [H]
          exact rs_over w _ l hs hq hq1 m _ e hbl hlo hhi hb hrp hl64
        · exact sz_some w l (jn m e) (rsz_ok h0 h1 hc hb) (rs_fin w l hs hq hq1 m (jn m e) e hodd hlt hlo hhi hbl hb hrp (fun W => join_any W m e (okp hodd hlt hlo hb)))

/-- What Read tells. -/
def rdV : Option Nat → Value
  | some b => .tuple #[.float .f64 b, .int .i64 0]
  | none => .tuple #[.float .f64 0, .int .i64 130]

theorem rsz_lt {l : List UInt8} {r : Nat} (h : rsz l = some r) : r < 9223372036854775808 := by have := (rsz_some h).1; omega

theorem rdf_none {l s : List UInt8} {neg : Bool} (h0 : l ≠ [110, 97, 110]) (hc : cut 45 l = (s, neg)) (hz : rsz s = none) : rdf l = none := by unfold rdf; rw [if_neg h0, hc, hz]
theorem rdf_pos {l s : List UInt8} {r : Nat} (h0 : l ≠ [110, 97, 110]) (hc : cut 45 l = (s, false)) (hz : rsz s = some r) : rdf l = some r := by unfold rdf; rw [if_neg h0, hc, hz]; rfl
theorem rdf_neg {l s : List UInt8} {r R : Nat} (h0 : l ≠ [110, 97, 110]) (hc : cut 45 l = (s, true)) (hz : rsz s = some r) (hR : R = r + 9223372036854775808) : rdf l = some R := by
  unfold rdf
  rw [if_neg h0, hc, hz]
  simp only [if_true]
  rw [hR, Nat.add_comm]

set_option maxRecDepth 100000 in
set_option maxHeartbeats 1000000 in
theorem rf_nan (w : World) (s : ByteArray) (l : List UInt8) (hs : s.toList = l) (hq : (l == [110, 97, 110]) = true) :
    Calls Tryd.prog 10 #[.string s] w fun e w' => e = .returned (.tuple #[.float .f64 9221120237041090561, .int .i64 0]) ∧ w' = w := by
  have hc31 := Tryd.call31
  go_enter Tryd.func10, Tryd.ntmps10
  go_wp2
  go_ret2
  exact ⟨rfl, rfl⟩
set_option maxRecDepth 100000 in
set_option maxHeartbeats 1000000 in
theorem rf_none (w : World) (l t : List UInt8) (neg : Bool) (hL : l.length ≤ 9223372036854775807) (hq : (l == [110, 97, 110]) = false) (c1 : (cut 45 l).1 = t) (c2 : (cut 45 l).2 = neg)
    (hsz2 : ∀ W, Calls Tryd.prog 35 #[.string (str t)] W fun e w' => e = .returned (.tuple #[.int .u64 0, .bool false]) ∧ w' = W) :
    Calls Tryd.prog 10 #[.string (str l)] w fun e w' => e = .returned (.tuple #[.float .f64 0, .int .i64 130]) ∧ w' = w := by
  have hs := str_toList l
  go_enter Tryd.func10, Tryd.ntmps10
  go_wp2_with (first
    | (go_at_call 35; refine (hsz2 _).mono ?_; rintro e w1 ⟨rfl, rfl⟩)
    | (go_at_call 34; refine (cut_gen _ _ _ hL).mono ?_; rintro e w1 ⟨rfl, rfl⟩))
  go_ret2
  exact ⟨rfl, rfl⟩
set_option maxRecDepth 100000 in
set_option maxHeartbeats 1000000 in
theorem rf_pos (w : World) (l t : List UInt8) (r : Nat) (hL : l.length ≤ 9223372036854775807) (hq : (l == [110, 97, 110]) = false) (c1 : (cut 45 l).1 = t) (c2 : (cut 45 l).2 = false)
    (hsz2 : ∀ W, Calls Tryd.prog 35 #[.string (str t)] W fun e w' => e = .returned (.tuple #[.int .u64 r, .bool true]) ∧ w' = W) :
    Calls Tryd.prog 10 #[.string (str l)] w fun e w' => e = .returned (.tuple #[.float .f64 r, .int .i64 0]) ∧ w' = w := by
  have hs := str_toList l
  have hc31 := Tryd.call31
  go_enter Tryd.func10, Tryd.ntmps10
  go_wp2_with (first
    | (go_at_call 35; refine (hsz2 _).mono ?_; rintro e w1 ⟨rfl, rfl⟩)
    | (go_at_call 34; refine (cut_gen _ _ _ hL).mono ?_; rintro e w1 ⟨rfl, rfl⟩))
  go_ret2
  exact ⟨rfl, rfl⟩
set_option maxRecDepth 100000 in
set_option maxHeartbeats 1000000 in
theorem rf_neg (w : World) (l t : List UInt8) (r R : Nat) (hL : l.length ≤ 9223372036854775807) (hq : (l == [110, 97, 110]) = false) (c1 : (cut 45 l).1 = t) (c2 : (cut 45 l).2 = true) (hot : bits .or .u64 (r : Int) 9223372036854775808 = (R : Int))
    (hsz2 : ∀ W, Calls Tryd.prog 35 #[.string (str t)] W fun e w' => e = .returned (.tuple #[.int .u64 r, .bool true]) ∧ w' = W) :
    Calls Tryd.prog 10 #[.string (str l)] w fun e w' => e = .returned (.tuple #[.float .f64 R, .int .i64 0]) ∧ w' = w := by
  have hs := str_toList l
  have hc31 := Tryd.call31
  go_enter Tryd.func10, Tryd.ntmps10
  go_wp2_with (first
    | (go_at_call 35; refine (hsz2 _).mono ?_; rintro e w1 ⟨rfl, rfl⟩)
    | (go_at_call 34; refine (cut_gen _ _ _ hL).mono ?_; rintro e w1 ⟨rfl, rfl⟩))
  go_ret2
  exact ⟨rfl, rfl⟩

theorem read_any (w : World) (l : List UInt8) (hL : l.length ≤ 9223372036854775807) :
    Calls Tryd.prog 10 #[.string (str l)] w fun e w' => e = .returned (rdV (rdf l)) ∧ w' = w := by
  by_cases h0 : l = [110, 97, 110]
  · have H : rdf l = some 9221120237041090561 := by unfold rdf; rw [if_pos h0]
    rw [H]
    exact rf_nan w _ l (str_toList l) (by simpa using h0)
  · have hq : (l == [110, 97, 110]) = false := by simpa using h0
    have hcl := cut_len 45 l
    cases hcut : cut 45 l with
    | mk s neg =>
      rw [hcut] at hcl
      have ca1 : (cut 45 l).1 = s := by rw [hcut]
      have ca2 : (cut 45 l).2 = neg := by rw [hcut]
      have hsz := fun W => readSize_any W s (by simp at hcl; omega)
      cases hz : rsz s with
      | none =>
        rw [hz] at hsz
        rw [rdf_none h0 hcut hz]
        exact rf_none w l s neg hL hq ca1 ca2 hsz
      | some r =>
        rw [hz] at hsz
        cases neg with
        | false =>
          rw [rdf_pos h0 hcut hz]
          exact rf_pos w l s r hL hq ca1 ca2 hsz
        | true =>
          rw [rdf_neg h0 hcut hz rfl]
          exact rf_neg w l s r _ hL hq ca1 ca2 (or_top (rsz_lt hz)) hsz
end Go.Proofs.YtmjcjcpifahpaaaDoor
