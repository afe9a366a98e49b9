/-
  The walks of the law's small functions: lent, behind, kept, Low, Number.
-/
import Derived.Test.YtocicepnlepfeaaW1
namespace Go.Proofs.Ytocicepnlepfeaa
open Go.RowKit
set_option linter.unusedVariables false

set_option maxRecDepth 100000 in
set_option maxHeartbeats 400000 in
theorem lent_any (w : World) (ao : Option Addr) (n cap : Nat) (l : List UInt8) (hb : Bs w ao n cap l) (hsz : n + 8 ≤ 140737488355328) :
    Calls Try.prog 9 #[.slice ao n cap] w fun e w' => ∃ g cap', e = .returned (.slice (some ⟨g, 0, none⟩) n cap') ∧ Ow w' w.heap.size 5 (some ⟨g, 0, none⟩) (n + 1) cap' (l ++ [165]) ∧ w.grownBy w' none := by
  have ho1 := Ow.empty w w.heap.size 5 (Nat.le_refl _)
  have hb1 := hb.grown (World.grownBy_alloc w (.cells #[] 5) none)
  go_enter Try.func9, Try.ntmps9
  go_wp2_with (at_builtin; refine wpList_append_bs _ rfl _ _ 22 rfl w.heap.size 5 Try.underlying22 Try.info5 rfl ho1 rfl hb1 (by omega) (by simp) ?_)
  intro ao2 cap2 w2 ho2 hg2
  have hs2 : w.heap.size < w2.heap.size := by have := hg2.size; simp at this; omega
  have hone := Bs.one w2 (.int .u8 165) 165 5 rfl
  go_wp2_with (at_builtin; refine wpList_append_bs _ rfl _ _ 22 rfl w.heap.size 5 Try.underlying22 Try.info5 rfl (ho2.grown (World.grownBy_alloc _ _ none)) rfl hone (by omega) (by simp; omega) ?_)
  intro ao3 cap3 w3 ho3 hg3
  have hr3 := ho3.shows.room
  have hB : Below w.heap.size w w3 := ((((Below.refl _ _).alloc (Nat.le_refl _) _).grown hg2 (by simp) (fun k hk => by simp [blk] at hk; omega)).alloc (by omega) _).grown hg3 (by simp; omega) (fun k hk => (ho2.from_base k hk).1)
  obtain ⟨g, hg, _, _⟩ := ho3.addr (by omega)
  rw [hg] at ho3 ⊢
  clear hone hb1 ho1 hg
  go_wp2
  go_ret
  exact ⟨g, cap3, rfl, ho3, below_grownBy hB⟩

set_option maxRecDepth 100000 in
set_option maxHeartbeats 400000 in
theorem behind_any (w : World) (go ao xo : Option Addr) (gn gc n cap m c : Nat) (gl l k : List UInt8) (hg : Bs w go gn gc gl) (hb : Bs w ao n cap l) (hx : Bs w xo m c k) (hsz : n + m ≤ 140737488355328) :
    Calls Try.prog 10 #[.slice go gn gc, .slice ao n cap, .slice xo m c] w fun e w' => e = .returned (.bool (gl == l ++ k)) ∧ w.grownBy w' none := by
  have ho1 := Ow.empty w w.heap.size 5 (Nat.le_refl _)
  have hb1 := hb.grown (World.grownBy_alloc w (.cells #[] 5) none)
  go_enter Try.func10, Try.ntmps10
  go_wp2_with (at_builtin; refine wpList_append_bs _ rfl _ _ 22 rfl w.heap.size 5 Try.underlying22 Try.info5 rfl ho1 rfl hb1 (by omega) (by simp) ?_)
  intro ao2 cap2 w2 ho2 hg2
  have hs2 : w.heap.size < w2.heap.size := by have := hg2.size; simp at this; omega
  have hB2 : Below w.heap.size w w2 := ((Below.refl _ _).alloc (Nat.le_refl _) _).grown hg2 (by simp) (fun k hk => by simp [blk] at hk; omega)
  have hx2 := hx.grown (below_grownBy hB2)
  go_wp2_with (at_builtin; refine wpList_append_bs _ rfl _ _ 22 rfl w.heap.size 5 Try.underlying22 Try.info5 rfl ho2 rfl hx2 (by omega) (by omega) ?_)
  intro ao3 cap3 w3 ho3 hg3
  have hB3 : Below w.heap.size w w3 := hB2.grown hg3 (by omega) (fun k hk => (ho2.from_base k hk).1)
  clear hb1 ho1 hx2
  go_wp2_with fail
  refine (same_any _ _ _ _ _ _ _ gl (l ++ k) (hg.grown (below_grownBy hB3)) ho3.shows).mono ?_
  rintro e w4 ⟨rfl, rfl⟩
  go_wp2
  go_ret
  exact ⟨rfl, below_grownBy hB3⟩

set_option maxRecDepth 100000 in
set_option maxHeartbeats 400000 in
theorem kept_any (w : World) (g : Nat) (ao : Option Addr) (n cap c : Nat) (l : List UInt8) (hm : Bs w (some ⟨g, 0, none⟩) (n + 1) cap (l ++ [165])) (hb : Bs w ao n c l) (hsz : n + 8 ≤ 140737488355328) :
    Calls Try.prog 21 #[.slice (some ⟨g, 0, none⟩) n cap, .slice ao n c] w fun e w' => e = .returned (.bool true) ∧ w' = w := by
  have hl : Hid (l.length = n) := hb.len
  have hm' : Bs w (some ⟨g, 0, none⟩) n cap l := by
    have := hm.take n (by omega)
    rwa [List.take_left' hl] at this
  have hc : w.cell? ⟨g, n, none⟩ = some (.int .u8 165) := by
    have := hm.at (j := n) (by simp [hl.out])
    simpa [hl.out] using this
  have hroom := hm.room
  go_enter Try.func21, Try.ntmps21
  go_wp2_with fail
  refine (same_any _ _ _ _ _ _ _ l l hm' hb).mono ?_
  rintro e w4 ⟨rfl, rfl⟩
  have hll : (l == l) = true := by simp
  rw [hll]
  go_wp2
  go_ret
  exact ⟨rfl, rfl⟩

set_option maxRecDepth 100000 in
set_option maxHeartbeats 400000 in
theorem low_any (w : World) (X sz : Nat) (hX : X < 18446744073709551616) (hs : sz ≤ 8) :
    Calls Try.prog 12 #[.int .u64 X, .int .i64 sz] w fun e w' => ∃ ao' cap', e = .returned (.slice ao' sz cap') ∧ Ow w' w.heap.size 5 ao' sz cap' (low X sz) ∧ w.grownBy w' none := by
  go_enter Try.func12, Try.ntmps12
  go_wp2_with fail
  go_loopw [0, 5, 6] (fun x o i wr => ∃ (k : Nat) (ao' : Option Addr) (cap' y : Nat), k ≤ sz ∧ i = .int .i64 k ∧ x = .int .u64 y ∧ Hid (y = X / 256 ^ k) ∧ y < 18446744073709551616 ∧ o = .slice ao' k cap' ∧ Ow wr w.heap.size 5 ao' k cap' (low X k) ∧ Below w.heap.size w wr)
    (fun _ _ i _ => sz - (intOf i).toNat)
  case atStart => exact ⟨0, none, 0, X, Nat.zero_le _, rfl, rfl, (show X = X / 256 ^ 0 by simp), hX, rfl, Ow.nil _ _ _, Below.refl _ _⟩
  case round =>
    obtain ⟨k, ao1, cap1, y, hk, rfl, rfl, hy, hyl, rfl, ho1, hb1⟩ := hrel
    by_cases hlt : k < sz
    · have hbs := Bs.one wr (.int .u8 ((y : Int) % 256)) (UInt8.ofNat y) 5 (bv_mod y)
      have hwb : w.heap.size ≤ wr.heap.size := hb1.size
      go_wp2_with (at_builtin; refine wpList_append_bs _ rfl _ _ 22 rfl w.heap.size 5 Try.underlying22 Try.info5 rfl (ho1.grown (World.grownBy_alloc _ _ none)) rfl hbs (by omega) (by simp; omega) ?_)
      intro ao2 cap2 w2 ho2 hg2
      have hb2 : Below w.heap.size w w2 := (hb1.alloc hwb _).grown hg2 (by simp; omega) (fun k hk => (ho1.from_base k hk).1)
      clear hbs hg2 ho1 hb1
      go_wp2
      go_roundw
      case rel => exact ⟨k + 1, ao2, cap2, y / 256, hlt, by go_num, by go_num, low_step hy, by omega, rfl, by rw [low_succ, ← hy.out]; exact ho2, hb2⟩
      case measure => simp [intOf]; omega
    · obtain rfl : k = sz := by omega
      go_wp2
      go_ret
      exact ⟨_, _, rfl, ho1, below_grownBy hb1⟩

set_option maxRecDepth 100000 in
set_option maxHeartbeats 400000 in
theorem number_any (w : World) (ao : Option Addr) (n cap : Nat) (l : List UInt8) (hb : Bs w ao n cap l) (hn : n ≤ 8) :
    Calls Try.prog 20 #[.slice ao n cap] w fun e w' => e = .returned (.int .u64 (val l)) ∧ w' = w := by
  have hl : Hid (l.length = n) := hb.len
  go_enter Try.func20, Try.ntmps20
  go_wp2_with fail
  go_loop [3, 4] (fun x i => ∃ (k y : Nat), k ≤ n ∧ i = .int .i64 ((k : Int) - 1) ∧ x = .int .u64 y ∧ Hid (y = val (l.drop k)))
    (fun _ i => (intOf i + 1).toNat)
  case atStart => exact ⟨n, 0, Nat.le_refl _, rfl, rfl, (show 0 = val (l.drop n) by rw [List.drop_of_length_le (by rw [hl.out]; exact Nat.le_refl _)]; rfl)⟩
  case round =>
    obtain ⟨k, y, hk, rfl, rfl, hy⟩ := hrel
    by_cases hk0 : k = 0
    · subst hk0
      go_wp2
      go_ret
      have : y = val l := by have := hy.out; simpa using this
      exact ⟨by rw [this]; rfl, rfl⟩
    · obtain ⟨j, rfl⟩ : ∃ j, k = j + 1 := ⟨k - 1, by omega⟩
      obtain ⟨b, o, hbo, _⟩ := hb.addr (by omega)
      subst hbo
      have hj : j < l.length := by rw [hl.out]; omega
      have hc := hb.at hj
      have hy2 : y < 72057594037927936 := by
        have h1 := val_lt (l.drop (j + 1))
        have h2 : 256 ^ (l.drop (j + 1)).length ≤ 256 ^ 7 := Nat.pow_le_pow_right (by omega) (by simp [hl.out]; omega)
        have := hy.out
        omega
      have hb2 := (l[j]).toNat_lt
      go_wp2
      go_round
      case rel => exact ⟨j, 256 * y + l[j].toNat, by omega, rfl, by go_num, (show _ = _ by rw [val_drop hj, ← hy.out]; omega)⟩
      case measure => simp [intOf]

end Go.Proofs.Ytocicepnlepfeaa
