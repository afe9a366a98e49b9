/-
  RingOrder: the walk.
-/
import Derived.Test.YtabnpgmkccmneaaW1
import Derived.Test.YtabnpgmkccmneaaMem2
namespace Go.Proofs.Ytabnpgmkccmneaa
open Go.RowKit
set_option linter.unusedVariables false

set_option maxRecDepth 100000 in
set_option maxHeartbeats 400000 in
theorem ringOrder_bad (w : World) (k : Int) (a1 a2 : Option Addr) (n1 c1 n2 c2 : Nat) (h : k < 1 ∨ 256 < k ∨ 300 < n1 ∨ 300 < n2) :
    Calls Try.prog 4 #[.int .i64 k, .slice a1 n1 c1, .slice a2 n2 c2] w fun e w' => e = .returned (.bool true) ∧ w.grownBy w' none := by
  by_cases h1 : k < 1
  · have e1 : decide (k < 1) = true := by simpa using h1
    go_enter Try.func4, Try.ntmps4
    go_wp2_with (go_at_call 6; refine (works_any _).mono ?_; rintro e w1 ⟨rfl, hg1⟩)
    go_ret
    exact ⟨rfl, hg1⟩
  have e1 : decide (k < 1) = false := by simpa using h1
  by_cases h2 : 256 < k
  · have e2 : decide (k > 256) = true := by simpa using h2
    go_enter Try.func4, Try.ntmps4
    go_wp2_with (go_at_call 6; refine (works_any _).mono ?_; rintro e w1 ⟨rfl, hg1⟩)
    go_ret
    exact ⟨rfl, hg1⟩
  have e2 : decide (k > 256) = false := by simpa using h2
  by_cases h3 : 300 < n1
  · have e3 : decide (300 < n1) = true := by simpa using h3
    have e3' : decide ((n1 : Int) > 300) = true := by simp; omega
    go_enter Try.func4, Try.ntmps4
    go_wp2_with (go_at_call 6; refine (works_any _).mono ?_; rintro e w1 ⟨rfl, hg1⟩)
    go_ret
    exact ⟨rfl, hg1⟩
  have e3 : decide (300 < n1) = false := by simpa using h3
  have e4 : decide (300 < n2) = true := by simp; omega
  go_enter Try.func4, Try.ntmps4
  go_wp2_with (go_at_call 6; refine (works_any _).mono ?_; rintro e w1 ⟨rfl, hg1⟩)
  go_ret
  exact ⟨rfl, hg1⟩

/-- What a queue holds: of all that comes, what went in and not out. -/
def qs (L : List Value) (out inn : Nat) : List Value := (L.drop out).take (inn - out)

theorem qs_len {L : List Value} {out inn : Nat} (h : inn ≤ L.length) : (qs L out inn).length = inn - out := by simp [qs]; omega
theorem qs_put {L : List Value} {out inn k : Nat} (h : out ≤ inn) : qs L out inn ++ (L.drop inn).take k = qs L out (inn + k) := by
  unfold qs
  have e : inn + k - out = (inn - out) + k := by omega
  rw [e, List.take_add, List.drop_drop]
  congr 3
  omega
theorem qs_drop {L : List Value} {out inn m : Nat} : (qs L out inn).drop m = qs L (out + m) inn := by
  unfold qs
  rw [List.drop_take, List.drop_drop]
  congr 1
  omega
theorem qs_get {L : List Value} {out inn m j : Nat} (hm : m ≤ inn - out) (hj : j < m) : ((qs L out inn).take m)[j]? = L[out + j]? := by
  unfold qs
  rw [List.getElem?_take_of_lt hj, List.getElem?_take_of_lt (by omega), List.getElem?_drop]

set_option maxRecDepth 100000 in
set_option maxHeartbeats 4000000 in
theorem ringOrder_main (w : World) (bnd : Nat) (a1 a2 : Option Addr) (n1 c1 n2 c2 : Nat) (L : List ByteArray) (Z : List Int) (h1 : 1 ≤ bnd) (h2 : bnd ≤ 256) (h3 : n1 ≤ 300) (h4 : n2 ≤ 300)
    (hL : Vs w a1 n1 c1 (L.map .string)) (hZ : Vs w a2 n2 c2 (Z.map (.int .i64))) (hx : Plain a1) (hlt : ∀ a, a1 = some a → a.block < w.heap.size) (hzb : ∀ z ∈ Z, -9223372036854775808 ≤ z ∧ z < 9223372036854775808) :
    Calls Try.prog 4 #[.int .i64 bnd, .slice a1 n1 c1, .slice a2 n2 c2] w fun e w' => e = .returned (.bool true) ∧ w.grownBy w' none := by
  have e1 : decide ((bnd : Int) < 1) = false := by simp; omega
  have e2 : decide ((bnd : Int) > 256) = false := by simp; omega
  have e3 : decide (300 < n1) = false := by simp; omega
  have e4 : decide (300 < n2) = false := by simp; omega
  have hl1 := hL.len
  have hl2 := hZ.len
  simp only [List.length_map] at hl1 hl2
  go_enter Try.func4, Try.ntmps4
  go_wp2_with fail
  refine (Rs.new_any _ bnd h1 h2).mono ?_
  rintro e w1 ⟨b, g, rfl, hr1, hb, hg, hg1⟩
  clear e1 e2 e3 e4
  go_wp2_with (go_at_call 8; refine (num_any _ _).mono ?_; rintro e w' ⟨rfl, hw'⟩; replace hw' := hw'.symm; subst hw')
  go_loopw [9, 10, 11, 12, 13, 14, 15, 16] (fun i' o' k' _ _ _ _ _ wr => ∃ (inn out k f : Nat), i' = .int .i64 inn ∧ o' = .int .i64 out ∧ k' = .int .i64 k ∧ out ≤ inn ∧ inn ≤ n1 ∧ k ≤ n2 ∧ Rg wr 9 b g bnd f (qs (L.map .string) out inn) ∧ w.grownBy wr none) (fun _ _ k _ _ _ _ _ _ => n2 - (intOf k).toNat)
  case atStart => exact ⟨0, 0, 0, 0, rfl, rfl, rfl, Nat.le_refl _, Nat.zero_le _, Nat.zero_le _, hr1, hg1⟩
  case round =>
    obtain ⟨inn, out, k, f, rfl, rfl, rfl, hoi, hin, hk, hR, hG⟩ := hrel
    clear hr1 hg1
    have hbd := hR.len
    rw [qs_len (by simp; omega)] at hbd
    have hLr := hL.grown hG
    have hZr := hZ.grown hG
    have hsz := hG.size
    by_cases hkn : k < n2
    · obtain ⟨zb, zf, hza, _⟩ := hZr.addr (by omega)
      subst hza
      obtain ⟨z, hz⟩ : ∃ z, Z[k]? = some z := ⟨_, List.getElem?_eq_getElem (by omega)⟩
      have hcz := hZr.at (j := k) (u := .int .i64 z) (by simp [hz])
      have hzr := hzb z (List.mem_of_getElem? hz)
      obtain ⟨t, ht⟩ : ∃ t, z.tmod 8 = t := ⟨_, rfl⟩
      have ht1 : -8 < t ∧ t < 8 := by rw [← ht]; rw [tmod_eq_if]; split <;> omega
      clear hz hZr
      by_cases ht0 : 0 ≤ t
      · obtain ⟨kk, hkk⟩ : ∃ kk : Nat, min t ((n1 : Int) - (inn : Int)) = (kk : Int) := ⟨(min t ((n1 : Int) - (inn : Int))).toNat, by omega⟩
        have hkb : kk ≤ 7 ∧ inn + kk ≤ n1 := by omega
        obtain ⟨hk7, hkn1⟩ := hkb
        go_wp2_with (first | (refine wpList_slice_vs _ rfl (.tmp 68) (.tmp 69) (.tmp 72) 43 rfl 9 Try.underlying43 Rs.size1 rfl hLr hx inn kk rfl rfl rfl (by omega) hkn1 ?_))
        intro xo' c' hv' hp' hblk
        have hxg : ∀ a, xo' = some a → a.block ≠ g := fun a ha => by
          obtain ⟨a0, h9, h10⟩ := hblk a ha
          have := hlt a0 h9
          omega
        clear hblk hkk hcz ht
        by_cases hroom : (inn - out) + kk ≤ bnd
        · go_wp2_with (first | (go_at_call 8; refine (num_any _ _).mono ?_; rintro e w' ⟨rfl, hw'⟩; replace hw' := hw'.symm; subst hw') | (go_at_call 18; refine (Rs.put_any _ b g bnd f kk c' xo' _ _ hR hv' (by rw [qs_len (by simp; omega)]; exact hroom) hxg hp').mono ?_))
          rw [qs_put hoi]
          rintro e w4 ⟨rfl, hR4, hc4⟩
          have hG4 : w.grownBy w4 none := ((Chg.of_grown hG (two b g)).trans hc4).grown (fun k hk => by rintro (e | e) <;> omega)
          clear hR hG hc4 hv' hxg hp' hLr
          have hq : ((qs (L.map .string) out (inn + kk)).length : Int) = (inn : Int) + (kk : Int) - (out : Int) := by rw [qs_len (by simp; omega)]; omega
          have hb1 : decide ((inn : Int) + (kk : Int) - (out : Int) > (bnd : Int)) = false := by simp; omega
          have hb2 : decide ((inn : Int) + (kk : Int) < (out : Int)) = false := by simp; omega
          go_wp2_with (first | (go_at_call 8; refine (num_any _ _).mono ?_; rintro e w' ⟨rfl, hw'⟩; replace hw' := hw'.symm; subst hw') | (go_at_call 20; refine (Rs.len_any _ b g bnd _ _ hR4).mono ?_; rintro e w' ⟨rfl, hw'⟩; replace hw' := hw'.symm; subst hw'))
          go_roundw
          case rel => exact ⟨inn + kk, out, k + 1, f, by go_num, rfl, by go_num, by omega, by omega, by omega, hR4, hG4⟩
          case measure => simp [intOf]; omega
        · go_wp2_with (first | (go_at_call 8; refine (num_any _ _).mono ?_; rintro e w' ⟨rfl, hw'⟩; replace hw' := hw'.symm; subst hw') | (go_at_call 18; refine (Rs.put_full _ b g bnd f kk c' xo' _ hR (by rw [qs_len (by simp; omega)]; omega)).mono ?_))
          rintro e w4 ⟨rfl, hg4⟩
          have hR4 := hR.grown hg4
          have hG4 := grown_trans hG hg4 (by simp)
          clear hR hG hg4 hv' hxg hp' hLr
          have hq : ((qs (L.map .string) out inn).length : Int) = (inn : Int) - (out : Int) := by rw [qs_len (by simp; omega)]; omega
          have hb0 : decide ((inn : Int) - (out : Int) + (kk : Int) ≤ (bnd : Int)) = false := by simp; omega
          have hb1 : decide ((inn : Int) - (out : Int) > (bnd : Int)) = false := by simp; omega
          have hb2 : decide ((inn : Int) < (out : Int)) = false := by simp; omega
          go_wp2_with (first | (go_at_call 8; refine (num_any _ _).mono ?_; rintro e w' ⟨rfl, hw'⟩; replace hw' := hw'.symm; subst hw') | (go_at_call 20; refine (Rs.len_any _ b g bnd _ _ hR4).mono ?_; rintro e w' ⟨rfl, hw'⟩; replace hw' := hw'.symm; subst hw'))
          go_roundw
          case rel => exact ⟨inn, out, k + 1, f, rfl, rfl, by go_num, hoi, hin, by omega, hR4, hG4⟩
          case measure => simp [intOf]; omega
      · obtain ⟨m, hm⟩ : ∃ m : Nat, -t = (m : Int) := ⟨(-t).toNat, by omega⟩
        have hm1 : 1 ≤ m ∧ m ≤ 7 := by omega
        have htd : decide (t ≥ 0) = false := by simp; omega
        clear ht1 ht0
        by_cases hmi : m ≤ inn - out
        · go_wp2_with (first | (go_at_call 8; refine (num_any _ _).mono ?_; rintro e w' ⟨rfl, hw'⟩; replace hw' := hw'.symm; subst hw') | (go_at_call 19; refine (Rs.drop_any _ b g bnd f m _ hR (by rw [qs_len (by simp; omega)]; exact hmi)).mono ?_))
          rw [qs_drop]
          rintro e w4 ⟨o, rfl, hro4, ho4, hR4, hc4⟩
          have hG4 : w.grownBy w4 none := ((Chg.of_grown hG (two b g)).trans hc4).grown (fun k hk => by rintro (e | e) <;> omega)
          clear hR hG hc4 hLr hcz
          go_wp2_with (go_at_call 8; refine (num_any _ _).mono ?_; rintro e w' ⟨rfl, hw'⟩; replace hw' := hw'.symm; subst hw')
          go_loopw [16] (fun q' wr => ∃ q : Nat, q' = .int .i64 q ∧ q ≤ m ∧ w4.grownBy wr none) (fun q _ => m - (intOf q).toNat)
          case atStart => exact ⟨0, rfl, Nat.zero_le _, grown_refl _ none⟩
          case round =>
            obtain ⟨q, rfl, hq, hgq⟩ := hrel
            by_cases hqm : q < m
            · have hLq := (hL.grown hG4).grown hgq
              obtain ⟨lb, lf, hla, _⟩ := hLq.addr (by omega)
              subst hla
              obtain ⟨x, hxx⟩ : ∃ x, L[out + q]? = some x := ⟨_, List.getElem?_eq_getElem (by omega)⟩
              have hc1 := hLq.at (j := out + q) (u := .string x) (by simp [hxx])
              have hc2 : wr.cell? ⟨o, q, none⟩ = some (.string x) := by rw [(hro4.grown hgq).cell, qs_get hmi hqm]; simp [hxx]
              have hidx : ((out : Int) + (q : Int)).toNat = out + q := by omega
              have hj1 : (0 : Int) ≤ (out : Int) + (q : Int) := by omega
              have hj2 : (out : Int) + (q : Int) < (n1 : Int) := by omega
              have hb0 : decide ((out : Int) + (q : Int) ≥ (inn : Int)) = false := by simp; omega
              clear hLq hxx
              go_wp2_with fail
              go_quiet (fail)
              have hgq2 := grown_trans hgq (grown_drewN wr nq none) (by simp)
              go_wp2
              go_roundw
              case rel => exact ⟨q + 1, by go_num, by omega, hgq2⟩
              case measure => simp [intOf]; omega
            · obtain rfl : q = m := by omega
              have hR5 := hR4.grown hgq
              have hG5 := grown_trans hG4 hgq (by simp)
              clear hR4 hG4 hro4 hgq
              have hq : ((qs (L.map .string) (out + q) inn).length : Int) = (inn : Int) - ((out : Int) + (q : Int)) := by rw [qs_len (by simp; omega)]; omega
              have hb1 : decide ((inn : Int) - ((out : Int) + (q : Int)) > (bnd : Int)) = false := by simp; omega
              have hb2 : decide ((inn : Int) < (out : Int) + (q : Int)) = false := by simp; omega
              go_wp2_with (first | (go_at_call 8; refine (num_any _ _).mono ?_; rintro e w' ⟨rfl, hw'⟩; replace hw' := hw'.symm; subst hw') | (go_at_call 20; refine (Rs.len_any _ b g bnd _ _ hR5).mono ?_; rintro e w' ⟨rfl, hw'⟩; replace hw' := hw'.symm; subst hw'))
              go_roundw
              case rel => exact ⟨inn, out + q, k + 1, _, rfl, by go_num, by go_num, by omega, hin, by omega, hR5, hG5⟩
              case measure => simp [intOf]; omega
        · go_wp2_with (first | (go_at_call 8; refine (num_any _ _).mono ?_; rintro e w' ⟨rfl, hw'⟩; replace hw' := hw'.symm; subst hw') | (go_at_call 19; refine (Rs.drop_far _ b g bnd f (m : Int) _ hR (by rw [qs_len (by simp; omega)]; omega)).mono ?_))
          rintro e w4 ⟨rfl, hw4⟩
          subst hw4
          have hR4 := hR
          have hq : ((qs (L.map .string) out inn).length : Int) = (inn : Int) - (out : Int) := by rw [qs_len (by simp; omega)]; omega
          have hb0 : decide ((inn : Int) - (out : Int) ≥ (m : Int)) = false := by simp; omega
          have hb1 : decide ((inn : Int) - (out : Int) > (bnd : Int)) = false := by simp; omega
          have hb2 : decide ((inn : Int) < (out : Int)) = false := by simp; omega
          clear hR hLr hcz
          go_wp2_with (first | (go_at_call 8; refine (num_any _ _).mono ?_; rintro e w' ⟨rfl, hw'⟩; replace hw' := hw'.symm; subst hw') | (go_at_call 20; refine (Rs.len_any _ b g bnd _ _ hR4).mono ?_; rintro e w' ⟨rfl, hw'⟩; replace hw' := hw'.symm; subst hw'))
          go_roundw
          case rel => exact ⟨inn, out, k + 1, f, rfl, rfl, by go_num, hoi, hin, by omega, hR4, hG⟩
          case measure => simp [intOf]; omega
    · obtain rfl : k = n2 := by omega
      clear hZr
      go_wp2_with (go_at_call 21; refine (Rs.clear_any _ b g bnd f _ hR).mono ?_)
      rintro e w4 ⟨o, rfl, hro4, ho4, _, hc4⟩
      have hG4 : w.grownBy w4 none := ((Chg.of_grown hG (two b g)).trans hc4).grown (fun k hk => by rintro (e | e) <;> omega)
      obtain ⟨m, hm⟩ : ∃ m, m = inn - out := ⟨_, rfl⟩
      have hql : (qs (L.map .string) out inn).length = m := by rw [qs_len (by simp; omega), hm]
      have hqt : qs (L.map .string) out inn = (qs (L.map .string) out inn).take m := by rw [← hql, List.take_length]
      rw [hqt] at hro4
      have hmi : m ≤ inn - out := by omega
      have hmI : (inn : Int) - (out : Int) = (m : Int) := by omega
      clear hR hG hc4 hLr hqt hm
      go_wp2_with fail
      go_loopw [18] (fun q' wr => ∃ q : Nat, q' = .int .i64 q ∧ q ≤ m ∧ w4.grownBy wr none) (fun q _ => m - (intOf q).toNat)
      case atStart => exact ⟨0, rfl, Nat.zero_le _, grown_refl _ none⟩
      case round =>
        obtain ⟨q, rfl, hq, hgq⟩ := hrel
        by_cases hqm : q < m
        · have hLq := (hL.grown hG4).grown hgq
          obtain ⟨lb, lf, hla, _⟩ := hLq.addr (by omega)
          subst hla
          obtain ⟨x, hxx⟩ : ∃ x, L[out + q]? = some x := ⟨_, List.getElem?_eq_getElem (by omega)⟩
          have hc1 := hLq.at (j := out + q) (u := .string x) (by simp [hxx])
          have hc2 : wr.cell? ⟨o, q, none⟩ = some (.string x) := by rw [(hro4.grown hgq).cell, qs_get hmi hqm]; simp [hxx]
          have hidx : ((out : Int) + (q : Int)).toNat = out + q := by omega
          have hj1 : (0 : Int) ≤ (out : Int) + (q : Int) := by omega
          have hj2 : (out : Int) + (q : Int) < (n1 : Int) := by omega
          have hb0 : decide ((out : Int) + (q : Int) ≥ (inn : Int)) = false := by simp; omega
          clear hLq hxx
          go_wp2_with fail
          go_quiet (fail)
          have hgq2 := grown_trans hgq (grown_drewN wr nq none) (by simp)
          go_wp2
          go_roundw
          case rel => exact ⟨q + 1, by go_num, by omega, hgq2⟩
          case measure => simp [intOf]; omega
        · obtain rfl : q = m := by omega
          have hG5 := grown_trans hG4 hgq (by simp)
          clear hG4 hro4 hgq
          go_wp2_with (go_at_call 6; refine (works_any _).mono ?_; rintro e w6 ⟨rfl, hg6⟩)
          go_ret
          exact ⟨rfl, grown_trans hG5 hg6 (by simp)⟩
end Go.Proofs.Ytabnpgmkccmneaa
