/-
  The walks of New, U8, U16, End, At, AppendString, num, and of 'works'.
-/
import Derived.Test.YtocicepnlepfeaaW4
import Derived.Lib.SlBytesConst
namespace Go.Proofs.Ytocicepnlepfeaa
open Go.RowKit
set_option linter.unusedVariables false

set_option maxRecDepth 100000 in
set_option maxHeartbeats 400000 in
theorem new_any (w : World) (ao : Option Addr) (n cap : Nat) (l : List UInt8) (hb : Bs w ao n cap l) (hsz : n ≤ 140737488355328) :
    Calls Try.prog 29 #[.slice ao n cap] w fun e w' => ∃ b g, e = .returned (.pointer (some ⟨b, 0, none⟩)) ∧ Rd w' b g 0 n n l 0 ∧ w.heap.size ≤ b ∧ w.grownBy w' none := by
  go_enter Try.func29, Try.ntmps29
  go_wp2_with fail
  refine (withRoom_any _ ao n cap 0 l hb (by omega)).mono ?_
  rintro e w1 ⟨g, rfl, ho, hg⟩
  have hgl := (ho.from_base g rfl)
  have hs := hg.size
  go_wp2
  go_ret
  refine ⟨w1.heap.size, g, rfl, ⟨by simp, by simp, by simp, fun i => by simp, ho.shows.grown (World.grownBy_alloc _ _ none), by omega, by simp; omega, by omega⟩, hs, grown_trans hg (World.grownBy_alloc _ _ none) (by simp)⟩

set_option maxRecDepth 100000 in
set_option maxHeartbeats 400000 in
theorem num_any (w : World) (e : Int) : Calls Try.prog 27 #[.int .i64 e] w fun r w' => r = .returned (.int .i64 e) ∧ w' = w := by
  go_enter Try.func27, Try.ntmps27
  go_wp2
  go_ret
  exact ⟨rfl, rfl⟩

set_option maxRecDepth 100000 in
set_option maxHeartbeats 400000 in
theorem at_any (w : World) (b g o n cap : Nat) (l : List UInt8) (at' : Nat) (h : Rd w b g o n cap l at') :
    Calls Try.prog 32 #[.pointer (some ⟨b, 0, none⟩)] w fun r w' => r = .returned (.int .i64 at') ∧ w' = w := by
  have h1 := h.c1
  go_enter Try.func32, Try.ntmps32
  go_wp2_with fail
  refine (there_any _ _ h.c2).mono ?_
  rintro e w1 ⟨rfl, rfl⟩
  go_wp2
  go_ret
  exact ⟨rfl, rfl⟩

set_option maxRecDepth 100000 in
set_option maxHeartbeats 400000 in
theorem left_any (w : World) (b g o n cap : Nat) (l : List UInt8) (at' : Nat) (h : Rd w b g o n cap l at') :
    Calls Try.prog 33 #[.pointer (some ⟨b, 0, none⟩)] w fun r w' => r = .returned (.int .i64 n) ∧ w' = w := by
  have h1 := h.c0
  go_enter Try.func33, Try.ntmps33
  go_wp2_with fail
  refine (there_any _ _ h.c2).mono ?_
  rintro e w1 ⟨rfl, rfl⟩
  go_wp2
  go_ret
  exact ⟨rfl, rfl⟩

set_option maxRecDepth 100000 in
set_option maxHeartbeats 400000 in
theorem end_yes (w : World) (b g o cap : Nat) (l : List UInt8) (at' : Nat) (h : Rd w b g o 0 cap l at') :
    Calls Try.prog 34 #[.pointer (some ⟨b, 0, none⟩)] w fun r w' => r = .returned (.int .i64 0) ∧ w' = w := by
  have h1 := h.c0
  go_enter Try.func34, Try.ntmps34
  go_wp2_with fail
  refine (there_any _ _ h.c2).mono ?_
  rintro e w1 ⟨rfl, rfl⟩
  go_wp2
  go_ret
  exact ⟨rfl, rfl⟩

set_option maxRecDepth 100000 in
set_option maxHeartbeats 400000 in
theorem end_no (w : World) (b g o n cap : Nat) (l : List UInt8) (at' : Nat) (h : Rd w b g o n cap l at') (hn : 0 < n) :
    Calls Try.prog 34 #[.pointer (some ⟨b, 0, none⟩)] w fun r w' => r = .returned (.int .i64 112) ∧ w' = w := by
  have h1 := h.c0
  go_enter Try.func34, Try.ntmps34
  go_wp2_with fail
  refine (there_any _ _ h.c2).mono ?_
  rintro e w1 ⟨rfl, rfl⟩
  go_wp2
  go_ret
  exact ⟨rfl, rfl⟩

set_option maxRecDepth 100000 in
set_option maxHeartbeats 400000 in
theorem u8_yes (w : World) (b g o n cap : Nat) (l : List UInt8) (at' : Nat) (h : Rd w b g o n cap l at') (hn : 1 ≤ n) :
    Calls Try.prog 40 #[.pointer (some ⟨b, 0, none⟩)] w fun e w' => e = .returned (.tuple #[.int .u8 (val (l.take 1)), .int .i64 0]) ∧ ∃ o' cap', Rd w' b g o' (n - 1) cap' (l.drop 1) (at' + 1) ∧ w.grownBy w' (some b) := by
  have hv : val (l.take 1) < 256 := by
    have h3 := val_lt (l.take 1)
    rw [List.length_take, h.bs.len, Nat.min_eq_left (by omega)] at h3
    exact h3
  go_enter Try.func40, Try.ntmps40
  go_wp2_with fail
  refine (number_yes _ b g o n cap 1 l at' h (by omega) hn).mono ?_
  rintro e w1 ⟨rfl, o', cap', hr, hg⟩
  go_wp2
  go_ret2
  exact ⟨rfl, _, _, hr, hg⟩

set_option maxRecDepth 100000 in
set_option maxHeartbeats 400000 in
theorem u16_yes (w : World) (b g o n cap : Nat) (l : List UInt8) (at' : Nat) (h : Rd w b g o n cap l at') (hn : 2 ≤ n) :
    Calls Try.prog 41 #[.pointer (some ⟨b, 0, none⟩)] w fun e w' => e = .returned (.tuple #[.int .u16 (val (l.take 2)), .int .i64 0]) ∧ ∃ o' cap', Rd w' b g o' (n - 2) cap' (l.drop 2) (at' + 2) ∧ w.grownBy w' (some b) := by
  have hv : val (l.take 2) < 65536 := by
    have h3 := val_lt (l.take 2)
    rw [List.length_take, h.bs.len, Nat.min_eq_left (by omega)] at h3
    exact h3
  go_enter Try.func41, Try.ntmps41
  go_wp2_with fail
  refine (number_yes _ b g o n cap 2 l at' h (by omega) hn).mono ?_
  rintro e w1 ⟨rfl, o', cap', hr, hg⟩
  go_wp2
  go_ret2
  exact ⟨rfl, _, _, hr, hg⟩

set_option maxRecDepth 100000 in
set_option maxHeartbeats 400000 in
theorem putString_any (w : World) (base : Nat) (ao so : Option Addr) (n cap m c : Nat) (l s : List UInt8) (ho : Ow w base 5 ao n cap l) (hbase : base ≤ w.heap.size) (hs : Bs w so m c s) (hso : ∀ a, so = some a → 0 < m → a.block < base) (hm : m < 4294967296) (hsz : n + 4 + m ≤ 140737488355328) :
    Calls Try.prog 43 #[.slice ao n cap, .slice so m c] w fun e w' => ∃ ao' cap', e = .returned (.slice ao' (n + 4 + m) cap') ∧ Ow w' base 5 ao' (n + 4 + m) cap' (l ++ low m 4 ++ s) ∧ Below base w w' := by
  go_enter Try.func43, Try.ntmps43
  go_wp2_with fail
  refine (putNumber_any _ base ao n cap m 4 l ho hbase (by omega) (by omega) (by omega)).mono ?_
  rintro e w1 ⟨ao1, cap1, rfl, ho1, hb1⟩
  have hs1 : Bs w1 so m c s := ⟨hs.len, hs.room, hs.top, hs.nil, fun a ha j u hu => by
    rw [World.cell?_of_block (w := w) (hb1.block _ (by
      have : (a.add j).block = a.block := by unfold Addr.add; split <;> rfl
      rw [this]; exact hso a ha (by have := (List.getElem?_eq_some_iff.1 hu).1; rw [List.length_map, hs.len] at this; omega)))]
    exact hs.cells a ha j u hu⟩
  have hsz1 := hb1.size
  go_wp2_with (at_builtin; refine wpList_append_bs _ rfl _ _ 22 rfl base 5 Try.underlying22 Try.info5 rfl ho1 rfl hs1 (by omega) (by omega) ?_)
  intro ao2 cap2 w2 ho2 hg2
  go_wp2
  go_ret
  exact ⟨_, _, rfl, (by rw [List.append_assoc]; exact ho2), hb1.grown hg2 (by omega) (fun k hk => (ho1.from_base k hk).1)⟩

set_option maxRecDepth 100000 in
set_option maxHeartbeats 400000 in
theorem appendString_yes (w : World) (ao so : Option Addr) (n cap m c : Nat) (l s : List UInt8) (hb : Bs w ao n cap l) (hs : Bs w so m c s) (hm : m ≤ 16777216) (hsz : n + 4 + m ≤ 140737488355328) :
    Calls Try.prog 24 #[.slice ao n cap, .slice so m c] w fun e w' => ∃ ao' cap', e = .returned (.tuple #[.slice ao' (n + 4 + m) cap', .int .i64 0]) ∧ Ow w' w.heap.size 5 ao' (n + 4 + m) cap' (l ++ low m 4 ++ s) ∧ w.grownBy w' none := by
  go_enter Try.func24, Try.ntmps24
  go_wp2_with fail
  refine (withRoom_int _ ao n cap (4 + m) _ (by omega) l hb (by omega)).mono ?_
  rintro e w1 ⟨g, rfl, ho1, hg1⟩
  go_wp2_with fail
  refine (putString_any _ w.heap.size _ so n _ m c l s ho1 hg1.size (hs.grown hg1) (fun a ha hm0 => ?_) (by omega) hsz).mono ?_
  · obtain ⟨b, o, hbo, hlt⟩ := hs.addr hm0
    rw [hbo] at ha
    obtain rfl := Option.some.inj ha
    exact hlt
  rintro e w2 ⟨ao2, cap2, rfl, ho2, hb2⟩
  go_wp2
  go_ret2
  exact ⟨_, _, rfl, ho2, below_grownBy ((grownBy_below hg1).trans hb2)⟩

set_option maxRecDepth 100000 in
set_option maxHeartbeats 400000 in
theorem appendString_no (w : World) (ao so : Option Addr) (n cap m c : Nat) (hm : 16777216 < m) :
    Calls Try.prog 24 #[.slice ao n cap, .slice so m c] w fun e w' => e = .returned (.tuple #[.slice none 0 0, .int .i64 3]) ∧ w' = w := by
  go_enter Try.func24, Try.ntmps24
  go_wp2
  go_ret2
  exact ⟨rfl, rfl⟩


theorem Bs.two (w : World) (x y : Value) (b c : UInt8) (e : TypeId) (fr : Nat × Nat) (hx : x = bv b) (hy : y = bv c) : Bs (w.alloc (.cells #[x, y] e fr)) (some ⟨w.heap.size, 0, none⟩) 2 2 [b, c] := by
  subst hx hy
  refine ⟨rfl, Nat.le_refl _, by decide, (by simp), fun a ha j u hu => ?_⟩
  obtain rfl := Option.some.inj ha
  rw [Addr.add_lit, Nat.zero_add, World.cell?_alloc_mark]
  match j, hu with
  | 0, hu => simpa using hu
  | 1, hu => simpa using hu

def wL : List UInt8 := [1, 3, 2, 2, 0, 0, 0, 97, 98]

set_option maxRecDepth 100000 in
set_option maxHeartbeats 1000000 in
theorem works_any (w : World) : Calls Try.prog 22 #[] w fun e w' => e = .returned (.bool true) ∧ w.grownBy w' none := by
  have hone := Bs.one w (.int .u8 1) 1 5 rfl
  have kc := fun (w : World) (C : Array Value) (n c : Nat) => Lib.run_convert_bytes_const (P := Try.prog) w 22 5 C n c Try.underlying22 Try.underlying5
  go_enter Try.func22, Try.ntmps22
  go_wp2_with fail
  refine (appendU16_any _ _ 1 1 515 [1] hone (by omega) (by omega)).mono ?_
  rintro e w1 ⟨ao1, cap1, rfl, ho1, hg1⟩
  have hga := grown_trans (World.grownBy_alloc w (.cells #[.int .u8 1] 5) none) hg1 (by simp)
  clear hg1 hone
  have htwo := Bs.two w1 (.int .u8 97) (.int .u8 98) 97 98 5 (2, 3) rfl rfl
  go_wp2_with fail
  refine (appendString_yes _ _ _ 3 cap1 2 2 ([1] ++ low 515 2) [97, 98] (ho1.shows.grown (World.grownBy_alloc w1 _ none)) htwo (by omega) (by omega)).mono ?_
  rintro e w2 ⟨ao2, cap2, rfl, ho2, hg2⟩
  have hgb := grown_trans hga (grown_trans (World.grownBy_alloc w1 (.cells #[.int .u8 97, .int .u8 98] 5 (2, 3)) none) hg2 (by simp)) (by simp)
  clear hg2 htwo hga ho1
  rw [show [1] ++ low 515 2 ++ low 2 4 ++ [97, 98] = wL from by decide] at ho2
  go_wp2_with fail
  refine (new_any _ _ 9 cap2 wL ho2.shows (by omega)).mono ?_
  rintro e w3 ⟨b, g, rfl, hr3, hbb, hg3⟩
  have hgc := grown_trans hgb hg3 (by simp)
  have hwb : w.heap.size ≤ b := Nat.le_trans hgb.size hbb
  have hfr : ∀ k, some b = some k → none = some k ∨ w.heap.size ≤ k := fun k hk => Or.inr (by cases hk; exact hwb)
  clear hg3 hgb ho2
  go_wp2_with (go_at_call 27; refine (num_any _ _).mono ?_; rintro e w' ⟨rfl, rfl⟩)
  refine (u8_yes _ b g 0 9 9 wL 0 hr3 (by omega)).mono ?_
  rw [show val (wL.take 1) = 1 from by decide, show wL.drop 1 = [3, 2, 2, 0, 0, 0, 97, 98] from by decide]
  rintro e w4 ⟨rfl, o4, cap4, hr4, hg4⟩
  clear hr3
  go_wp2_with fail
  refine (u16_yes _ b g o4 8 cap4 _ 1 hr4 (by omega)).mono ?_
  rw [show val (List.take 2 [3, 2, 2, 0, 0, 0, 97, 98]) = 515 from by decide, show List.drop 2 [3, 2, 2, 0, 0, 0, 97, 98] = ([2, 0, 0, 0, 97, 98] : List UInt8) from by decide]
  rintro e w5 ⟨rfl, o5, cap5, hr5, hg5⟩
  clear hr4
  go_wp2_with fail
  refine (string_ok _ b g o5 6 cap5 2 2 _ 3 hr5 (by omega) (by omega) (show 2 = val (List.take 4 [2, 0, 0, 0, 97, 98]) by decide) (by omega) (by omega) (by omega)).mono ?_
  rw [show List.take 2 (List.drop 4 [2, 0, 0, 0, 97, 98]) = ([97, 98] : List UInt8) from by decide, show List.drop 2 (List.drop 4 [2, 0, 0, 0, 97, 98]) = ([] : List UInt8) from by decide]
  rintro e w6 ⟨g6, rfl, ho6, o6, cap6, hr6, hg6⟩
  clear hr5
  go_wp2_with (go_at_call 27; refine (num_any _ _).mono ?_; rintro e w' ⟨rfl, rfl⟩)
  refine (same_any _ _ _ _ _ _ _ [97, 98] [97, 98] (ho6.shows.grown (World.grownBy_alloc _ _ none)) (Bs.two _ (.int .u8 97) (.int .u8 98) 97 98 5 (2, 3) rfl rfl)).mono ?_
  rw [show (([97, 98] : List UInt8) == [97, 98]) = true from by decide]
  rintro e w8 ⟨rfl, rfl⟩
  have hr8 := hr6.grown (World.grownBy_alloc _ (.cells #[.int .u8 97, .int .u8 98] 5 (2, 3)) none)
  go_wp2_with (first | (go_at_call 27; refine (num_any _ _).mono ?_; rintro e w' ⟨rfl, rfl⟩) | (go_at_call 34; refine (end_yes _ _ _ _ _ _ _ hr8).mono ?_; rintro e w' ⟨rfl, rfl⟩) | (go_at_call 32; refine (at_any _ _ _ _ _ _ _ _ hr8).mono ?_; rintro e w' ⟨rfl, rfl⟩))
  go_ret
  exact ⟨rfl, grown_trans (grown_trans (grown_trans (grown_trans hgc hg4 hfr) hg5 hfr) hg6 hfr) (World.grownBy_alloc _ _ none) (by simp)⟩

end Go.Proofs.Ytocicepnlepfeaa
