/-
  Of: the walk.
-/
import Derived.Test.YtmjcjcpifahpaaaDoorG5
import Derived.Test.YtmjcjcpifahpaaaDoorEq8
import Derived.Test.YtmjcjcpifahpaaaDoorG9
import Derived.Deep.RegionHeld
namespace Go.Proofs.YtmjcjcpifahpaaaDoor
open Go.RowKit
set_option linter.unusedVariables false

/-- A key's float, by its place. -/
def unp (p : Nat) : Nat := if 9223372036854775808 ≤ p then p - 9223372036854775808 else 18446744073709551615 - p
theorem unp_lt {p : Nat} (h : p < 18446744073709551616) : unp p < 18446744073709551616 := by unfold unp; split <;> omega
theorem unp_plc {x : Nat} (hx : x < 18446744073709551616) : plc (unp (plc x)) = plc x := by
  cases h : isN x with
  | true =>
    rw [plc_nan h]
    have e : unp 18446744073709551615 = 9223372036854775807 := by unfold unp; rw [if_pos (by omega)]
    rw [e, plc_nan ((isN_eq _).2 (by omega))]
  | false =>
    have hm := (isN_neq x).1 h
    by_cases hs : 9223372036854775808 ≤ x
    · have e : unp (plc x) = x := by rw [plc_neg h hs]; unfold unp; rw [if_neg (by omega)]; omega
      rw [e]
    · have e : unp (plc x) = x := by rw [plc_pos h (by omega)]; unfold unp; rw [if_pos (by omega)]; omega
      rw [e]

theorem kyl_nth (p k : Nat) (hk : k < 8) : nth (kyl p) k = p / 256 ^ (7 - k) % 256 := by
  unfold nth kyl
  rw [List.getD_eq_getElem?_getD, List.getElem?_reverse (by rw [low_length]; exact hk), low_length, low_at _ _ _ (by omega)]
  simp only [Option.getD_some, UInt8.toNat_ofNat']

/-- One byte more, by shift and or. -/
theorem in_byte {p k y : Nat} (hp : p < 18446744073709551616) (hk : k < 8) (hy : y = p / 256 ^ (8 - k)) : bits .or .u64 (IntKind.u64.wrap ((y : Int) * 256)) ((nth (kyl p) k : Nat) : Int) = ((p / 256 ^ (7 - k) : Nat) : Int) ∧ p / 256 ^ (7 - k) < 18446744073709551616 := by
  have e1 : 256 ^ (8 - k) = 256 ^ (7 - k) * 256 := by rw [show 8 - k = 7 - k + 1 by omega, Nat.pow_succ]
  rw [e1, ← Nat.div_div_eq_div_mul] at hy
  have hq : p / 256 ^ (7 - k) < 18446744073709551616 := Nat.lt_of_le_of_lt (Nat.div_le_self _ _) hp
  rw [kyl_nth p k hk]
  generalize p / 256 ^ (7 - k) = q at *
  refine ⟨?_, hq⟩
  have h1 : IntKind.u64.wrap ((y : Int) * 256) = ((y * 256 : Nat) : Int) := by rw [IntKind.wrap_u64]; omega
  rw [h1, bits_or_u64_nat _ _ (by omega) (by omega)]
  congr 1
  have := Nat.two_pow_add_eq_or_of_lt (i := 8) (b := q % 256) (by omega) y
  rw [show (2 : Nat) ^ 8 = 256 from rfl, Nat.mul_comm] at this
  rw [← this]
  omega

theorem idx23 (F : Nat → Nat) (k : Nat) (hk : k < 8) (W : World) : (Instr.index 23 (.agg (tab F 8)) (.int .i64 (k : Int))).run Tryd.prog W = .ok (.int .u8 (F k : Int)) W := by
  have h1 : (0 : Int) ≤ (k : Int) ∧ (k : Int) < 8 := by omega
  have h2 := tab_at F 8 k hk
  simp [Instr.index, run_underlying Tryd.underlying23, asIntOf, part, Tryd.isAgg5, Tryd.sizeOf5, h1, h2, hk]

theorem range_grown {w w' : World} {b : Nat} {C : List Value} (h : w.rangeAt b 0 C) (hg : w.grownBy w' none) : w'.rangeAt b 0 C := fun j u hu => hg.cell (h j u hu) (by simp)
theorem Tb.range {w : World} {g : Nat} {t : TypeId} {n : Nat} {F : Nat → Nat} (hT : Tb w g t n n F) {C : List Value} (hC : C.toArray = tab F n) : w.rangeAt g 0 C := fun j u hu => by
  have h1 := hT.whole
  rw [Nat.zero_add, cell_of_row w g j _ t (0, 0) h1, ← hC]
  simpa using hu
theorem Tb.boxed (w : World) (F : Nat → Nat) (t : TypeId) (n : Nat) : Tb (w.alloc (.cells (tab F n) t)) w.heap.size t n n F :=
  ⟨tab F n, heap_alloc_new w _, tab_size F n, fun j hj => tab_at F n j hj⟩

set_option maxRecDepth 100000 in
set_option maxHeartbeats 4000000 in
theorem of_yes (w : World) (p x : Nat) (hp : p < 18446744073709551616) (hx : unp p = x) (hE : plc x = p) :
    Calls Tryd.prog 8 #[.agg (tab (nth (kyl p)) 8)] w fun e w' => e = .returned (.tuple #[.float .f64 x, .int .i64 0]) ∧ w.grownBy w' none := by
  have hc31 := Tryd.call31
  have hix := fun k hk W => idx23 (nth (kyl p)) k hk W
  have hTb := Tb.boxed w (nth (kyl p)) 23 8
  have hpl := unp_lt hp
  rw [hx] at hpl
  have hkey := fun W => key_any W x hpl
  have hkeq := fun W => key_eq (p := plc x) (q := p) (plc_lt hpl) hp W
  obtain ⟨c0, c1, c2, c3, c4, c5, c6, c7, hC⟩ : ∃ c0 c1 c2 c3 c4 c5 c6 c7 : Int, tab (nth (kyl p)) 8 = #[.int .u8 c0, .int .u8 c1, .int .u8 c2, .int .u8 c3, .int .u8 c4, .int .u8 c5, .int .u8 c6, .int .u8 c7] := ⟨_, _, _, _, _, _, _, _, rfl⟩
  have hTb' := hTb.grown (grown_drew _ none)
  have cellsAt : ∀ {W : World}, Tb W w.heap.size 23 8 8 (nth (kyl p)) → W.cell? ⟨w.heap.size, 0, none⟩ = some (.int .u8 c0) ∧ W.cell? ⟨w.heap.size, 1, none⟩ = some (.int .u8 c1) ∧ W.cell? ⟨w.heap.size, 2, none⟩ = some (.int .u8 c2) ∧ W.cell? ⟨w.heap.size, 3, none⟩ = some (.int .u8 c3) ∧ W.cell? ⟨w.heap.size, 4, none⟩ = some (.int .u8 c4) ∧ W.cell? ⟨w.heap.size, 5, none⟩ = some (.int .u8 c5) ∧ W.cell? ⟨w.heap.size, 6, none⟩ = some (.int .u8 c6) ∧ W.cell? ⟨w.heap.size, 7, none⟩ = some (.int .u8 c7) := by
    intro W hT
    have h9 := hT.whole
    rw [hC] at h9
    refine ⟨?_, ?_, ?_, ?_, ?_, ?_, ?_, ?_⟩ <;> (rw [cell_of_row W w.heap.size _ _ 23 (0, 0) h9]; rfl)
  have p1 := cellsAt hTb'
  have hgA : w.grownBy (w.alloc (.cells (tab (nth (kyl p)) 8) 23)) none := alloc_grown _ _
  rw [hC] at hkeq
  obtain ⟨K1, hK1⟩ : ∃ K1, K1 = tab (nth (kyl (plc x))) 8 := ⟨_, rfl⟩
  rw [← hK1] at hkeq hkey
  have hkq : ∀ W, (Op.equalIn 10000 23 (.agg K1) (.agg #[.int .u8 c0, .int .u8 c1, .int .u8 c2, .int .u8 c3, .int .u8 c4, .int .u8 c5, .int .u8 c6, .int .u8 c7])).run Tryd.prog W = .ok true W := fun W => by rw [hkeq W]; simp [hE]
  have hTH : Hid (Tb (w.alloc (.cells (tab (nth (kyl p)) 8) 23)).drew w.heap.size 23 8 8 (nth (kyl p))) := hTb'
  have CA : Hid (∀ {W : World}, Tb W w.heap.size 23 8 8 (nth (kyl p)) → _) := @cellsAt
  have HX : Hid (unp p = x) := hx
  clear hK1 hTb' hC cellsAt hkeq hE hx
  go_enter Tryd.func8, Tryd.ntmps8
  go_wp2_with (refine wpList_load_tab rfl 23 (.tmp 1) rfl w.heap.size (nth (kyl p)) 8 rfl 23 hTb _ Tryd.underlying23 rfl info23 ?_)
  clear hTb
  generalize (w.alloc (.cells (tab (nth (kyl p)) 8) 23)) = w0 at *
  go_loop [4, 6, 9] (fun b _ i => ∃ (k y : Nat), k ≤ 8 ∧ i = .int .i64 k ∧ b = .int .u64 y ∧ y < 18446744073709551616 ∧ Hid (y = p / 256 ^ (8 - k)))
    (fun _ _ i => 8 - (intOf i).toNat)
  case atStart => exact ⟨0, 0, by omega, rfl, rfl, by omega, (show _ = _ by rw [Nat.div_eq_of_lt]; exact hp)⟩
  case round =>
    obtain ⟨k, y, hk, rfl, rfl, hyl, hY⟩ := hrel
    by_cases hlt : k < 8
    · have hi := hix k hlt
      obtain ⟨hor, hql⟩ := in_byte hp hlt hY.out
      have hbl : nth (kyl p) k < 256 := by rw [kyl_nth p k hlt]; exact Nat.mod_lt _ (by omega)
      have hcw : IntKind.u64.wrap ((nth (kyl p) k : Nat) : Int) = ((nth (kyl p) k : Nat) : Int) := u64_nat (by omega)
      obtain ⟨q, hq⟩ : ∃ q, q = p / 256 ^ (7 - k) := ⟨_, rfl⟩
      rw [← hq] at hor hql
      have HQ : Hid (q = p / 256 ^ (8 - (k + 1))) := by show _ = _; rw [hq]; congr 2; omega
      clear hq hix hY p1 hkq hkey
      generalize nth (kyl p) k = c at hi hor hbl hcw
      go_wp2
      go_round
      case rel => exact ⟨k + 1, q, by omega, by go_num, rfl, hql, HQ⟩
      case measure => simp [intOf]; omega
    · obtain rfl : k = 8 := by omega
      have hyp : y = p := by have := hY.out; simpa using this
      subst hyp
      clear hix hY hk hlt
      have hat := and_top hp
      by_cases hs : 9223372036854775808 ≤ y
      · rw [if_pos hs] at hat
        have hnt := andNot_top hp
        have hun : y % 9223372036854775808 = x := by have := HX.out; unfold unp at this; rw [if_pos hs] at this; omega
        rw [hun] at hnt
        clear hun
        go_wp2_with fail
        go_region_held (fun w' => w'.cell? ⟨w.heap.size, 0, none⟩ = some (.int .u8 c0) ∧ w'.cell? ⟨w.heap.size, 1, none⟩ = some (.int .u8 c1) ∧ w'.cell? ⟨w.heap.size, 2, none⟩ = some (.int .u8 c2) ∧ w'.cell? ⟨w.heap.size, 3, none⟩ = some (.int .u8 c3) ∧ w'.cell? ⟨w.heap.size, 4, none⟩ = some (.int .u8 c4) ∧ w'.cell? ⟨w.heap.size, 5, none⟩ = some (.int .u8 c5) ∧ w'.cell? ⟨w.heap.size, 6, none⟩ = some (.int .u8 c6) ∧ w'.cell? ⟨w.heap.size, 7, none⟩ = some (.int .u8 c7))
          (first | exact p1 | exact q1)
          ((go_at_call 16; refine (hkey _).mono ?_; rintro e w1 ⟨rfl, hg1⟩; have q1 := CA.out (hTH.out.grown hg1)))
        all_goals
          go_wp2
          go_ret2
          exact ⟨rfl, grown_trans (grown_trans hgA (grown_drew _ none) (by simp)) hg1 (by simp)⟩
      · rw [if_neg hs] at hat
        have hX := turn64 hp
        have hun : 18446744073709551615 - y = x := by have := HX.out; unfold unp at this; rw [if_neg hs] at this; exact this
        rw [hun] at hX
        clear hun
        go_wp2_with fail
        go_region_held (fun w' => w'.cell? ⟨w.heap.size, 0, none⟩ = some (.int .u8 c0) ∧ w'.cell? ⟨w.heap.size, 1, none⟩ = some (.int .u8 c1) ∧ w'.cell? ⟨w.heap.size, 2, none⟩ = some (.int .u8 c2) ∧ w'.cell? ⟨w.heap.size, 3, none⟩ = some (.int .u8 c3) ∧ w'.cell? ⟨w.heap.size, 4, none⟩ = some (.int .u8 c4) ∧ w'.cell? ⟨w.heap.size, 5, none⟩ = some (.int .u8 c5) ∧ w'.cell? ⟨w.heap.size, 6, none⟩ = some (.int .u8 c6) ∧ w'.cell? ⟨w.heap.size, 7, none⟩ = some (.int .u8 c7))
          (first | exact p1 | exact q1)
          ((go_at_call 16; refine (hkey _).mono ?_; rintro e w1 ⟨rfl, hg1⟩; have q1 := CA.out (hTH.out.grown hg1)))
        all_goals
          go_wp2
          go_ret2
          exact ⟨rfl, grown_trans (grown_trans hgA (grown_drew _ none) (by simp)) hg1 (by simp)⟩

set_option maxRecDepth 100000 in
set_option maxHeartbeats 4000000 in
theorem of_no (w : World) (p x : Nat) (hp : p < 18446744073709551616) (hx : unp p = x) (hE : ¬ plc x = p) :
    Calls Tryd.prog 8 #[.agg (tab (nth (kyl p)) 8)] w fun e w' => e = .returned (.tuple #[.float .f64 0, .int .i64 130]) ∧ w.grownBy w' none := by
  have hc31 := Tryd.call31
  have hix := fun k hk W => idx23 (nth (kyl p)) k hk W
  have hTb := Tb.boxed w (nth (kyl p)) 23 8
  have hpl := unp_lt hp
  rw [hx] at hpl
  have hkey := fun W => key_any W x hpl
  have hkeq := fun W => key_eq (p := plc x) (q := p) (plc_lt hpl) hp W
  obtain ⟨c0, c1, c2, c3, c4, c5, c6, c7, hC⟩ : ∃ c0 c1 c2 c3 c4 c5 c6 c7 : Int, tab (nth (kyl p)) 8 = #[.int .u8 c0, .int .u8 c1, .int .u8 c2, .int .u8 c3, .int .u8 c4, .int .u8 c5, .int .u8 c6, .int .u8 c7] := ⟨_, _, _, _, _, _, _, _, rfl⟩
  have hTb' := hTb.grown (grown_drew _ none)
  have cellsAt : ∀ {W : World}, Tb W w.heap.size 23 8 8 (nth (kyl p)) → W.cell? ⟨w.heap.size, 0, none⟩ = some (.int .u8 c0) ∧ W.cell? ⟨w.heap.size, 1, none⟩ = some (.int .u8 c1) ∧ W.cell? ⟨w.heap.size, 2, none⟩ = some (.int .u8 c2) ∧ W.cell? ⟨w.heap.size, 3, none⟩ = some (.int .u8 c3) ∧ W.cell? ⟨w.heap.size, 4, none⟩ = some (.int .u8 c4) ∧ W.cell? ⟨w.heap.size, 5, none⟩ = some (.int .u8 c5) ∧ W.cell? ⟨w.heap.size, 6, none⟩ = some (.int .u8 c6) ∧ W.cell? ⟨w.heap.size, 7, none⟩ = some (.int .u8 c7) := by
    intro W hT
    have h9 := hT.whole
    rw [hC] at h9
    refine ⟨?_, ?_, ?_, ?_, ?_, ?_, ?_, ?_⟩ <;> (rw [cell_of_row W w.heap.size _ _ 23 (0, 0) h9]; rfl)
  have p1 := cellsAt hTb'
  have hgA : w.grownBy (w.alloc (.cells (tab (nth (kyl p)) 8) 23)) none := alloc_grown _ _
  rw [hC] at hkeq
  obtain ⟨K1, hK1⟩ : ∃ K1, K1 = tab (nth (kyl (plc x))) 8 := ⟨_, rfl⟩
  rw [← hK1] at hkeq hkey
  have hkq : ∀ W, (Op.equalIn 10000 23 (.agg K1) (.agg #[.int .u8 c0, .int .u8 c1, .int .u8 c2, .int .u8 c3, .int .u8 c4, .int .u8 c5, .int .u8 c6, .int .u8 c7])).run Tryd.prog W = .ok false W := fun W => by rw [hkeq W]; simp [hE]
  have hTH : Hid (Tb (w.alloc (.cells (tab (nth (kyl p)) 8) 23)).drew w.heap.size 23 8 8 (nth (kyl p))) := hTb'
  have CA : Hid (∀ {W : World}, Tb W w.heap.size 23 8 8 (nth (kyl p)) → _) := @cellsAt
  have HX : Hid (unp p = x) := hx
  clear hK1 hTb' hC cellsAt hkeq hE hx
  go_enter Tryd.func8, Tryd.ntmps8
  go_wp2_with (refine wpList_load_tab rfl 23 (.tmp 1) rfl w.heap.size (nth (kyl p)) 8 rfl 23 hTb _ Tryd.underlying23 rfl info23 ?_)
  clear hTb
  generalize (w.alloc (.cells (tab (nth (kyl p)) 8) 23)) = w0 at *
  go_loop [4, 6, 9] (fun b _ i => ∃ (k y : Nat), k ≤ 8 ∧ i = .int .i64 k ∧ b = .int .u64 y ∧ y < 18446744073709551616 ∧ Hid (y = p / 256 ^ (8 - k)))
    (fun _ _ i => 8 - (intOf i).toNat)
  case atStart => exact ⟨0, 0, by omega, rfl, rfl, by omega, (show _ = _ by rw [Nat.div_eq_of_lt]; exact hp)⟩
  case round =>
    obtain ⟨k, y, hk, rfl, rfl, hyl, hY⟩ := hrel
    by_cases hlt : k < 8
    · have hi := hix k hlt
      obtain ⟨hor, hql⟩ := in_byte hp hlt hY.out
      have hbl : nth (kyl p) k < 256 := by rw [kyl_nth p k hlt]; exact Nat.mod_lt _ (by omega)
      have hcw : IntKind.u64.wrap ((nth (kyl p) k : Nat) : Int) = ((nth (kyl p) k : Nat) : Int) := u64_nat (by omega)
      obtain ⟨q, hq⟩ : ∃ q, q = p / 256 ^ (7 - k) := ⟨_, rfl⟩
      rw [← hq] at hor hql
      have HQ : Hid (q = p / 256 ^ (8 - (k + 1))) := by show _ = _; rw [hq]; congr 2; omega
      clear hq hix hY p1 hkq hkey
      generalize nth (kyl p) k = c at hi hor hbl hcw
      go_wp2
      go_round
      case rel => exact ⟨k + 1, q, by omega, by go_num, rfl, hql, HQ⟩
      case measure => simp [intOf]; omega
    · obtain rfl : k = 8 := by omega
      have hyp : y = p := by have := hY.out; simpa using this
      subst hyp
      clear hix hY hk hlt
      have hat := and_top hp
      by_cases hs : 9223372036854775808 ≤ y
      · rw [if_pos hs] at hat
        have hnt := andNot_top hp
        have hun : y % 9223372036854775808 = x := by have := HX.out; unfold unp at this; rw [if_pos hs] at this; omega
        rw [hun] at hnt
        clear hun
        go_wp2_with fail
        go_region_held (fun w' => w'.cell? ⟨w.heap.size, 0, none⟩ = some (.int .u8 c0) ∧ w'.cell? ⟨w.heap.size, 1, none⟩ = some (.int .u8 c1) ∧ w'.cell? ⟨w.heap.size, 2, none⟩ = some (.int .u8 c2) ∧ w'.cell? ⟨w.heap.size, 3, none⟩ = some (.int .u8 c3) ∧ w'.cell? ⟨w.heap.size, 4, none⟩ = some (.int .u8 c4) ∧ w'.cell? ⟨w.heap.size, 5, none⟩ = some (.int .u8 c5) ∧ w'.cell? ⟨w.heap.size, 6, none⟩ = some (.int .u8 c6) ∧ w'.cell? ⟨w.heap.size, 7, none⟩ = some (.int .u8 c7))
          (first | exact p1 | exact q1)
          ((go_at_call 16; refine (hkey _).mono ?_; rintro e w1 ⟨rfl, hg1⟩; have q1 := CA.out (hTH.out.grown hg1)))
        all_goals
          go_wp2
          go_ret2
          exact ⟨rfl, grown_trans (grown_trans hgA (grown_drew _ none) (by simp)) hg1 (by simp)⟩
      · rw [if_neg hs] at hat
        have hX := turn64 hp
        have hun : 18446744073709551615 - y = x := by have := HX.out; unfold unp at this; rw [if_neg hs] at this; exact this
        rw [hun] at hX
        clear hun
        go_wp2_with fail
        go_region_held (fun w' => w'.cell? ⟨w.heap.size, 0, none⟩ = some (.int .u8 c0) ∧ w'.cell? ⟨w.heap.size, 1, none⟩ = some (.int .u8 c1) ∧ w'.cell? ⟨w.heap.size, 2, none⟩ = some (.int .u8 c2) ∧ w'.cell? ⟨w.heap.size, 3, none⟩ = some (.int .u8 c3) ∧ w'.cell? ⟨w.heap.size, 4, none⟩ = some (.int .u8 c4) ∧ w'.cell? ⟨w.heap.size, 5, none⟩ = some (.int .u8 c5) ∧ w'.cell? ⟨w.heap.size, 6, none⟩ = some (.int .u8 c6) ∧ w'.cell? ⟨w.heap.size, 7, none⟩ = some (.int .u8 c7))
          (first | exact p1 | exact q1)
          ((go_at_call 16; refine (hkey _).mono ?_; rintro e w1 ⟨rfl, hg1⟩; have q1 := CA.out (hTH.out.grown hg1)))
        all_goals
          go_wp2
          go_ret2
          exact ⟨rfl, grown_trans (grown_trans hgA (grown_drew _ none) (by simp)) hg1 (by simp)⟩
end Go.Proofs.YtmjcjcpifahpaaaDoor
