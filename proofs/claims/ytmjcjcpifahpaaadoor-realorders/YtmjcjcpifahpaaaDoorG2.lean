/-
  Bytes appended; a number's bytes turned round; keys: the walks.
-/
import Derived.Test.YtmjcjcpifahpaaaDoorG1
import Derived.Test.YtmjcjcpifahpaaaDoorTab
namespace Go.Proofs.YtmjcjcpifahpaaaDoor
open Go.RowKit
set_option linter.unusedVariables false

theorem Tryd.info5 : (Tryd.prog.info? 5).map (fun i => (i.zero, i.size, i.bytes)) = some (some (.int .u8 0), 1, 1) := by kernel_rfl

set_option maxRecDepth 100000 in
set_option maxHeartbeats 400000 in
theorem withRoom_any (w : World) (ao : Option Addr) (n cap more : Nat) (l : List UInt8) (hb : Bs w ao n cap l) (hsz : n + more ≤ 140737488355328) :
    Calls Tryd.prog 77 #[.slice ao n cap, .int .i64 more] w fun e w' => ∃ g, e = .returned (.slice (some ⟨g, 0, none⟩) n (n + more)) ∧ Ow w' w.heap.size 5 (some ⟨g, 0, none⟩) n (n + more) l ∧ w.grownBy w' none := by
  go_enter Tryd.func77, Tryd.ntmps77
  go_wp2_with (at_make; refine wpList_make_bs _ rfl _ _ 37 rfl w.heap.size 5 Tryd.underlying37 Tryd.info5 n (n + more) rfl rfl (by omega) (by omega) (by omega) (by omega) (Nat.le_refl _) ?_)
  intro g w1 ho1 hg1
  have hb1 := hb.grown hg1
  go_wp2_with (refine wpList_copy_bs _ rfl (.tmp 13) (.tmp 14) 37 rfl w.heap.size 5 Tryd.underlying37 Tryd.info5 rfl ho1 rfl hb1 ?_)
  intro w2 ho2 hg2
  go_wp2
  go_ret
  exact ⟨_, rfl, ho2, grown_trans hg1 hg2 (fun k hk => Or.inr (ho1.from_base k hk).1)⟩

set_option maxRecDepth 100000 in
set_option maxHeartbeats 400000 in
theorem putNumber_any (w : World) (base : Nat) (ao : Option Addr) (n cap X sz : Nat) (l : List UInt8) (ho : Ow w base 5 ao n cap l) (hbase : base ≤ w.heap.size) (hX : X < 18446744073709551616) (hs : sz ≤ 8) (hsz : n + sz ≤ 140737488355328) :
    Calls Tryd.prog 76 #[.slice ao n cap, .int .u64 X, .int .i64 sz] w fun e w' => ∃ ao' cap', e = .returned (.slice ao' (n + sz) cap') ∧ Ow w' base 5 ao' (n + sz) cap' (l ++ low X sz) ∧ Below base w w' := by
  go_enter Tryd.func76, Tryd.ntmps76
  go_wp2_with fail
  go_loopw [0, 1, 8] (fun o x i wr => ∃ (k : Nat) (ao' : Option Addr) (cap' y : Nat), k ≤ sz ∧ i = .int .i64 k ∧ x = .int .u64 y ∧ Hid (y = X / 256 ^ k) ∧ y < 18446744073709551616 ∧ o = .slice ao' (n + k) cap' ∧ Ow wr base 5 ao' (n + k) cap' (l ++ low X k) ∧ Below base w wr)
    (fun _ _ i _ => sz - (intOf i).toNat)
  case atStart => exact ⟨0, ao, cap, X, Nat.zero_le _, rfl, rfl, (show X = X / 256 ^ 0 by simp), hX, rfl, by simpa [low_zero] using ho, Below.refl _ _⟩
  case round =>
    obtain ⟨k, ao1, cap1, y, hk, rfl, rfl, hy, hyl, rfl, ho1, hb1⟩ := hrel
    by_cases hlt : k < sz
    · have hbs := Bs.one wr (.int .u8 ((y : Int) % 256)) (UInt8.ofNat y) 5 (bv_mod y)
      have hwb : base ≤ wr.heap.size := Nat.le_trans hbase hb1.size
      go_wp2_with (at_builtin; refine wpList_append_bs _ rfl _ _ 37 rfl base 5 Tryd.underlying37 Tryd.info5 rfl (ho1.grown (World.grownBy_alloc _ _ none)) rfl hbs (by omega) (by simp; omega) ?_)
      intro ao2 cap2 w2 ho2 hg2
      have hb2 : Below base w w2 := (hb1.alloc hwb _).grown hg2 (by simp; omega) (fun k hk => (ho1.from_base k hk).1)
      clear hbs hg2 ho1 hb1
      go_wp2
      go_roundw
      case rel => exact ⟨k + 1, ao2, cap2, y / 256, hlt, by go_num, by go_num, low_step hy, by omega, rfl, by rw [low_succ, ← hy.out]; exact ho2, hb2⟩
      case measure => simp [intOf]; omega
    · obtain rfl : k = sz := by omega
      go_wp2
      go_ret
      exact ⟨_, _, rfl, ho1, hb1⟩

set_option maxRecDepth 100000 in
set_option maxHeartbeats 400000 in
theorem appendNumber_any (w : World) (ao : Option Addr) (n cap X sz : Nat) (l : List UInt8) (hb : Bs w ao n cap l) (hX : X < 18446744073709551616) (hs : sz ≤ 8) (hsz : n + sz ≤ 140737488355328) :
    Calls Tryd.prog 63 #[.slice ao n cap, .int .u64 X, .int .i64 sz] w fun e w' => ∃ ao' cap', e = .returned (.slice ao' (n + sz) cap') ∧ Ow w' w.heap.size 5 ao' (n + sz) cap' (l ++ low X sz) ∧ w.grownBy w' none := by
  go_enter Tryd.func63, Tryd.ntmps63
  go_wp2_with fail
  refine (withRoom_any _ ao n cap sz l hb hsz).mono ?_
  rintro e w1 ⟨g, rfl, ho1, hg1⟩
  go_wp2_with fail
  refine (putNumber_any _ w.heap.size _ n _ X sz l ho1 hg1.size hX hs hsz).mono ?_
  rintro e w2 ⟨ao2, cap2, rfl, ho2, hb2⟩
  go_wp2
  go_ret
  exact ⟨_, _, rfl, ho2, below_grownBy ((grownBy_below hg1).trans hb2)⟩

set_option maxRecDepth 100000 in
set_option maxHeartbeats 400000 in
theorem appendU64_any (w : World) (ao : Option Addr) (n cap X : Nat) (l : List UInt8) (hb : Bs w ao n cap l) (hX : X < 18446744073709551616) (hsz : n + 8 ≤ 140737488355328) :
    Calls Tryd.prog 48 #[.slice ao n cap, .int .u64 X] w fun e w' => ∃ ao' cap', e = .returned (.slice ao' (n + 8) cap') ∧ Ow w' w.heap.size 5 ao' (n + 8) cap' (l ++ low X 8) ∧ w.grownBy w' none := by
  go_enter Tryd.func48, Tryd.ntmps48
  go_wp2_with fail
  refine (appendNumber_any _ ao n cap X 8 l hb (by omega) (by omega) (by omega)).mono ?_
  rintro e w1 ⟨ao1, cap1, rfl, ho1, hg1⟩
  go_wp2
  go_ret
  exact ⟨_, _, rfl, ho1, hg1⟩

end Go.Proofs.YtmjcjcpifahpaaaDoor
