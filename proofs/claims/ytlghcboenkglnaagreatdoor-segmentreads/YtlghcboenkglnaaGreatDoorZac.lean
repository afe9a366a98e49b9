import Derived.Test.YtlghcboenkglnaaGreatDoorRows
import Derived.Test.YtlghcboenkglnaaGreatDoorZaa
import Derived.Test.YtlghcboenkglnaaGreatDoorX1
/-
  wire: numbers put behind bytes; bytes held against one another.
-/
namespace Go.Proofs.YtlghcboenkglnaaGreatDoor.Rec
open Go.Proofs.YtlghcboenkglnaaGreatDoor
open Go.RowKit
set_option linter.unusedVariables false

theorem Tryz.info5 : (Tryz.prog.info? 5).map (fun i => (i.zero, i.size, i.bytes)) = some (some (.int .u8 0), 1, 1) := by kernel_rfl
set_option maxRecDepth 100000 in
set_option maxHeartbeats 400000 in
theorem withRoom_any (w : World) (ao : Option Addr) (n cap more : Nat) (l : List UInt8) (hb : Bs w ao n cap l) (hsz : n + more ≤ 140737488355328) :
    Calls Tryz.prog 158 #[.slice ao n cap, .int .i64 more] w fun e w' => ∃ g, e = .returned (.slice (some ⟨g, 0, none⟩) n (n + more)) ∧ Ow w' w.heap.size 5 (some ⟨g, 0, none⟩) n (n + more) l ∧ w.grownBy w' none := by
  go_enter Tryz.func158, Tryz.ntmps158
  go_wp2_with (at_make; refine wpList_make_bs _ rfl _ _ 48 rfl w.heap.size 5 Tryz.underlying48 Tryz.info5 n (n + more) rfl rfl (by omega) (by omega) (by omega) (by omega) (Nat.le_refl _) ?_)
  intro g w1 ho1 hg1
  have hb1 := hb.grown hg1
  go_wp2_with (refine wpList_copy_bs _ rfl (.tmp 13) (.tmp 14) 48 rfl w.heap.size 5 Tryz.underlying48 Tryz.info5 rfl ho1 rfl hb1 ?_)
  intro w2 ho2 hg2
  go_wp2
  go_ret
  exact ⟨_, rfl, ho2, grown_trans hg1 hg2 (fun k hk => Or.inr (ho1.from_base k hk).1)⟩
set_option maxRecDepth 100000 in
set_option maxHeartbeats 400000 in
theorem putNumber_any (w : World) (base : Nat) (ao : Option Addr) (n cap X sz : Nat) (l : List UInt8) (ho : Ow w base 5 ao n cap l) (hbase : base ≤ w.heap.size) (hX : X < 18446744073709551616) (hs : sz ≤ 8) (hsz : n + sz ≤ 140737488355328) :
    Calls Tryz.prog 157 #[.slice ao n cap, .int .u64 X, .int .i64 sz] w fun e w' => ∃ ao' cap', e = .returned (.slice ao' (n + sz) cap') ∧ Ow w' base 5 ao' (n + sz) cap' (l ++ low X sz) ∧ Below base w w' := by
  go_enter Tryz.func157, Tryz.ntmps157
  go_wp2_with fail
  go_loopw [0, 1, 8] (fun o x i wr => ∃ (k : Nat) (ao' : Option Addr) (cap' y : Nat), k ≤ sz ∧ i = .int .i64 k ∧ x = .int .u64 y ∧ Hid (y = X / 256 ^ k) ∧ y < 18446744073709551616 ∧ o = .slice ao' (n + k) cap' ∧ Ow wr base 5 ao' (n + k) cap' (l ++ low X k) ∧ Below base w wr)
    (fun _ _ i _ => sz - (intOf i).toNat)
  case atStart => exact ⟨0, ao, cap, X, Nat.zero_le _, rfl, rfl, (show X = X / 256 ^ 0 by simp), hX, rfl, by simpa [low_zero] using ho, Below.refl _ _⟩
  case round =>
    obtain ⟨k, ao1, cap1, y, hk, rfl, rfl, hy, hyl, rfl, ho1, hb1⟩ := hrel
    by_cases hlt : k < sz
    · have hbs := Bs.one wr (.int .u8 ((y : Int) % 256)) (UInt8.ofNat y) 5 (bv_mod y)
      have hwb : base ≤ wr.heap.size := Nat.le_trans hbase hb1.size
      go_wp2_with (at_builtin; refine wpList_append_bs _ rfl _ _ 48 rfl base 5 Tryz.underlying48 Tryz.info5 rfl (ho1.grown (World.grownBy_alloc _ _ none)) rfl hbs (by omega) (by simp; omega) ?_)
      intro ao2 cap2 w2 ho2 hg2
      have hb2 : Below base w w2 := (hb1.alloc hwb _).grown hg2 (by simp; omega) (fun k hk => (ho1.from_base k hk).1)
      clear hbs hg2 ho1 hb1
      go_wp2
      go_roundw
      case rel => exact ⟨k + 1, ao2, cap2, y / 256, hlt, by go_num, by go_num, low_step hy, by omega, rfl, by rw [low_succ, ← hy.out]; exact ho2, hb2⟩
      case measure => simp [intOf]; omega
    · obtain rfl : k = sz := by omega
      go_wp2
      go_ret
      exact ⟨_, _, rfl, ho1, hb1⟩
set_option maxRecDepth 100000 in
set_option maxHeartbeats 400000 in
theorem appendNumber_any (w : World) (ao : Option Addr) (n cap X sz : Nat) (l : List UInt8) (hb : Bs w ao n cap l) (hX : X < 18446744073709551616) (hs : sz ≤ 8) (hsz : n + sz ≤ 140737488355328) :
    Calls Tryz.prog 134 #[.slice ao n cap, .int .u64 X, .int .i64 sz] w fun e w' => ∃ ao' cap', e = .returned (.slice ao' (n + sz) cap') ∧ Ow w' w.heap.size 5 ao' (n + sz) cap' (l ++ low X sz) ∧ w.grownBy w' none := by
  go_enter Tryz.func134, Tryz.ntmps134
  go_wp2_with fail
  refine (withRoom_any _ ao n cap sz l hb hsz).mono ?_
  rintro e w1 ⟨g, rfl, ho1, hg1⟩
  go_wp2_with fail
  refine (putNumber_any _ w.heap.size _ n _ X sz l ho1 hg1.size hX hs hsz).mono ?_
  rintro e w2 ⟨ao2, cap2, rfl, ho2, hb2⟩
  go_wp2
  go_ret
  exact ⟨_, _, rfl, ho2, below_grownBy ((grownBy_below hg1).trans hb2)⟩
set_option maxRecDepth 100000 in
set_option maxHeartbeats 400000 in
theorem appendU16_any (w : World) (ao : Option Addr) (n cap X : Nat) (l : List UInt8) (hb : Bs w ao n cap l) (hX : X < 65536) (hsz : n + 8 ≤ 140737488355328) :
    Calls Tryz.prog 135 #[.slice ao n cap, .int .u16 X] w fun e w' => ∃ ao' cap', e = .returned (.slice ao' (n + 2) cap') ∧ Ow w' w.heap.size 5 ao' (n + 2) cap' (l ++ low X 2) ∧ w.grownBy w' none := by
  go_enter Tryz.func135, Tryz.ntmps135
  go_wp2_with fail
  refine (appendNumber_any _ ao n cap X 2 l hb (by omega) (by omega) (by omega)).mono ?_
  rintro e w1 ⟨ao1, cap1, rfl, ho1, hg1⟩
  go_wp2
  go_ret
  exact ⟨_, _, rfl, ho1, hg1⟩
set_option maxRecDepth 100000 in
set_option maxHeartbeats 400000 in
theorem appendU32_any (w : World) (ao : Option Addr) (n cap X : Nat) (l : List UInt8) (hb : Bs w ao n cap l) (hX : X < 4294967296) (hsz : n + 8 ≤ 140737488355328) :
    Calls Tryz.prog 101 #[.slice ao n cap, .int .u32 X] w fun e w' => ∃ ao' cap', e = .returned (.slice ao' (n + 4) cap') ∧ Ow w' w.heap.size 5 ao' (n + 4) cap' (l ++ low X 4) ∧ w.grownBy w' none := by
  go_enter Tryz.func101, Tryz.ntmps101
  go_wp2_with fail
  refine (appendNumber_any _ ao n cap X 4 l hb (by omega) (by omega) (by omega)).mono ?_
  rintro e w1 ⟨ao1, cap1, rfl, ho1, hg1⟩
  go_wp2
  go_ret
  exact ⟨_, _, rfl, ho1, hg1⟩
set_option maxRecDepth 100000 in
set_option maxHeartbeats 400000 in
theorem appendI64_any (w : World) (ao : Option Addr) (n cap : Nat) (z : Int) (X : Nat) (l : List UInt8) (hz : Hid (IntKind.u64.wrap z = (X : Int))) (hX : X < 18446744073709551616) (hb : Bs w ao n cap l) (hsz : n + 8 ≤ 140737488355328) :
    Calls Tryz.prog 102 #[.slice ao n cap, .int .i64 z] w fun e w' => ∃ ao' cap', e = .returned (.slice ao' (n + 8) cap') ∧ Ow w' w.heap.size 5 ao' (n + 8) cap' (l ++ low X 8) ∧ w.grownBy w' none := by
  go_enter Tryz.func102, Tryz.ntmps102
  go_wp2_with fail
  rw [hz.out]
  refine (appendNumber_any _ ao n cap X 8 l hb hX (by omega) (by omega)).mono ?_
  rintro e w1 ⟨ao1, cap1, rfl, ho1, hg1⟩
  go_wp2
  go_ret
  exact ⟨_, _, rfl, ho1, hg1⟩
end Go.Proofs.YtlghcboenkglnaaGreatDoor.Rec

/-
  wire: a reader.
-/
namespace Go.Proofs.YtlghcboenkglnaaGreatDoor.Rec
open Go.Proofs.YtlghcboenkglnaaGreatDoor
open Go.RowKit
set_option linter.unusedVariables false

/-- A reader lies in block b; the bytes l are left, 'at' are gone. -/
structure Rd (w : World) (b g o n cap : Nat) (l : List UInt8) (at' : Nat) : Prop where
  c0 : w.cell? ⟨b, 0, none⟩ = some (.slice (some ⟨g, o, none⟩) n cap)
  c1 : w.cell? ⟨b, 1, none⟩ = some (.int .i64 at')
  c2 : w.cell? ⟨b, 2, none⟩ = some (.bool true)
  fz : ∀ i, w.frozen? ⟨b, i, none⟩ = false
  bs : Bs w (some ⟨g, o, none⟩) n cap l
  ap : g ≠ b
  gl : g < w.heap.size
  bd : at' + cap ≤ 140737488355328
set_option maxRecDepth 100000 in
set_option maxHeartbeats 400000 in
theorem there_any (w : World) (b : Nat) (hc : w.cell? ⟨b, 2, none⟩ = some (.bool true)) :
    Calls Tryz.prog 204 #[.pointer (some ⟨b, 0, none⟩)] w fun e w' => e = .returned (.bool true) ∧ w' = w := by
  go_enter Tryz.func204, Tryz.ntmps204
  go_wp2
  go_ret
  exact ⟨rfl, rfl⟩
theorem Rd.moved {w : World} {b g o n cap : Nat} {l : List UInt8} {at' : Nat} (h : Rd w b g o n cap l at') (k o' : Nat) (hk : k ≤ n) (ho : n - k = 0 ∨ o' = o + k) :
    Rd ((w.setCell ⟨b, 0, none⟩ (.slice (some ⟨g, o', none⟩) (n - k) (cap - k))).setCell ⟨b, 1, none⟩ (.int .i64 ((at' : Int) + (k : Int)))) b g o' (n - k) (cap - k) (l.drop k) (at' + k) ∧
    w.grownBy ((w.setCell ⟨b, 0, none⟩ (.slice (some ⟨g, o', none⟩) (n - k) (cap - k))).setCell ⟨b, 1, none⟩ (.int .i64 ((at' : Int) + (k : Int)))) (some b) := by
  have hg : w.grownBy ((w.setCell ⟨b, 0, none⟩ (.slice (some ⟨g, o', none⟩) (n - k) (cap - k))).setCell ⟨b, 1, none⟩ (.int .i64 ((at' : Int) + (k : Int)))) (some b) :=
    grown_trans (setCell_grown _ _ _ _) (setCell_grown _ _ _ _) (fun k hk => Or.inl hk)
  refine ⟨⟨?_, ?_, ?_, ?_, ?_, h.ap, Nat.lt_of_lt_of_le h.gl hg.size, ?_⟩, hg⟩
  · rw [World.cell?_setCell_other _ _ _ _ (by simp), World.cell?_setCell_same _ _ _ h.c0]
  · rw [World.cell?_setCell_same (u := .int .i64 at') _ _ _ (by rw [World.cell?_setCell_other _ _ _ _ (by simp)]; exact h.c1)]
    simp
  · rw [World.cell?_setCell_other _ _ _ _ (by simp), World.cell?_setCell_other _ _ _ _ (by simp)]; exact h.c2
  · intro i; simp [h.fz i]
  · exact (h.bs.drop k hk o' ho).kept hg (fun a ha => by obtain rfl := Option.some.inj ha; simp [h.ap])
  · have := h.bd; have := h.bs.room; omega
set_option maxRecDepth 100000 in
set_option maxHeartbeats 400000 in
theorem pass_any (w : World) (b g o n cap k : Nat) (l : List UInt8) (at' : Nat) (h : Rd w b g o n cap l at') (hk : k ≤ n) :
    Calls Tryz.prog 211 #[.pointer (some ⟨b, 0, none⟩), .int .i64 k] w fun e w' => e = .returned (.tuple #[]) ∧ ∃ o' cap', Rd w' b g o' (n - k) cap' (l.drop k) (at' + k) ∧ w.grownBy w' (some b) := by
  have h0 := h.c0
  have h1 := h.c1
  have hf := h.fz
  have hr := h.bs.room
  have hbd := h.bd
  by_cases hck : cap = k
  · have hm := h.moved k o hk (Or.inl (by omega))
    subst hck
    obtain rfl : n = cap := by omega
    rw [Nat.sub_self] at hm ⊢
    go_enter Tryz.func211, Tryz.ntmps211
    go_wp2
    go_end0
    exact ⟨rfl, _, _, hm.1, hm.2⟩
  · have hm := h.moved k (o + k) hk (Or.inr rfl)
    go_enter Tryz.func211, Tryz.ntmps211
    go_wp2
    go_end0
    exact ⟨rfl, _, _, hm.1, hm.2⟩
set_option maxRecDepth 100000 in
set_option maxHeartbeats 400000 in
theorem number_yes (w : World) (b g o n cap sz : Nat) (l : List UInt8) (at' : Nat) (h : Rd w b g o n cap l at') (hs : sz ≤ 8) (hn : sz ≤ n) :
    Calls Tryz.prog 199 #[.pointer (some ⟨b, 0, none⟩), .int .i64 sz] w fun e w' => e = .returned (.tuple #[.int .u64 (val (l.take sz)), .int .i64 0]) ∧ ∃ o' cap', Rd w' b g o' (n - sz) cap' (l.drop sz) (at' + sz) ∧ w.grownBy w' (some b) := by
  have h0 := h.c0
  have h2 := h.c2
  have hl : Hid (l.length = n) := h.bs.len
  have hns : ¬ n < sz := by omega
  go_enter Tryz.func199, Tryz.ntmps199
  go_wp2_with fail
  refine (there_any _ _ h2).mono ?_
  rintro e w1 ⟨rfl, rfl⟩
  go_wp2_with fail
  go_loop [6, 19] (fun x i => ∃ (k y : Nat), k ≤ sz ∧ i = .int .i64 k ∧ x = .int .u64 y ∧ Hid (y = val (l.take k)))
    (fun _ i => sz - (intOf i).toNat)
  case atStart => exact ⟨0, 0, Nat.zero_le _, rfl, rfl, (show 0 = val (l.take 0) by simp [val])⟩
  case round =>
    obtain ⟨k, y, hk, rfl, rfl, hy⟩ := hrel
    by_cases hlt : k < sz
    · have hj : k < l.length := by rw [hl.out]; omega
      have hc := h.bs.at hj
      have hst := or_step y l[k].toNat k (by have h1 := val_lt (l.take k); rw [List.length_take, Nat.min_eq_left (by omega), ← hy.out] at h1; exact h1) (l[k]).toNat_lt (by omega)
      have hst2 : Hid _ := hst
      clear hst
      go_wp2
      rw [hst2.out]
      go_round
      case rel => exact ⟨k + 1, _, by omega, by go_num, rfl, (show _ = _ by rw [val_take_succ hj, ← hy.out])⟩
      case measure => simp [intOf]; omega
    · obtain rfl : k = sz := by omega
      go_wp2_with fail
      refine (pass_any _ b g o n cap k l at' h hn).mono ?_
      rintro e w2 ⟨rfl, o', cap', hr2, hg2⟩
      go_wp2
      go_ret2
      exact ⟨by rw [hy.out]; rfl, _, _, hr2, hg2⟩
set_option maxRecDepth 100000 in
set_option maxHeartbeats 400000 in
theorem number_no (w : World) (b g o n cap sz : Nat) (l : List UInt8) (at' : Nat) (h : Rd w b g o n cap l at') (hn : n < sz) :
    Calls Tryz.prog 199 #[.pointer (some ⟨b, 0, none⟩), .int .i64 sz] w fun e w' => e = .returned (.tuple #[.int .u64 0, .int .i64 111]) ∧ w' = w := by
  have h0 := h.c0
  have h2 := h.c2
  go_enter Tryz.func199, Tryz.ntmps199
  go_wp2_with fail
  refine (there_any _ _ h2).mono ?_
  rintro e w1 ⟨rfl, rfl⟩
  go_wp2
  go_ret2
  exact ⟨rfl, rfl⟩
set_option maxRecDepth 100000 in
set_option maxHeartbeats 400000 in
theorem new_far (w : World) (ao : Option Addr) (n cap : Nat) (l : List UInt8) (hb : Bs w ao n cap l) (hsz : n ≤ 140737488355328) :
    Calls Tryz.prog 178 #[.slice ao n cap] w fun e w' => ∃ b g, e = .returned (.pointer (some ⟨b, 0, none⟩)) ∧ Rd w' b g 0 n n l 0 ∧ w.heap.size ≤ b ∧ w.heap.size ≤ g ∧ w.grownBy w' none := by
  go_enter Tryz.func178, Tryz.ntmps178
  go_wp2_with fail
  refine (withRoom_any _ ao n cap 0 l hb (by omega)).mono ?_
  rintro e w1 ⟨g, rfl, ho, hg⟩
  have hgl := (ho.from_base g rfl)
  have hs := hg.size
  go_wp2
  go_ret
  refine ⟨w1.heap.size, g, rfl, ⟨by simp, by simp, by simp, fun i => by simp, ho.shows.grown (World.grownBy_alloc _ _ none), by omega, by simp; omega, by omega⟩, hs, hgl.1, grown_trans hg (World.grownBy_alloc _ _ none) (by simp)⟩
set_option maxRecDepth 100000 in
set_option maxHeartbeats 400000 in
theorem at_any (w : World) (b g o n cap : Nat) (l : List UInt8) (at' : Nat) (h : Rd w b g o n cap l at') :
    Calls Tryz.prog 200 #[.pointer (some ⟨b, 0, none⟩)] w fun r w' => r = .returned (.int .i64 at') ∧ w' = w := by
  have h1 := h.c1
  go_enter Tryz.func200, Tryz.ntmps200
  go_wp2_with fail
  refine (there_any _ _ h.c2).mono ?_
  rintro e w1 ⟨rfl, rfl⟩
  go_wp2
  go_ret
  exact ⟨rfl, rfl⟩
set_option maxRecDepth 100000 in
set_option maxHeartbeats 400000 in
theorem end_yes (w : World) (b g o cap : Nat) (l : List UInt8) (at' : Nat) (h : Rd w b g o 0 cap l at') :
    Calls Tryz.prog 186 #[.pointer (some ⟨b, 0, none⟩)] w fun r w' => r = .returned (.int .i64 0) ∧ w' = w := by
  have h1 := h.c0
  go_enter Tryz.func186, Tryz.ntmps186
  go_wp2_with fail
  refine (there_any _ _ h.c2).mono ?_
  rintro e w1 ⟨rfl, rfl⟩
  go_wp2
  go_ret
  exact ⟨rfl, rfl⟩
set_option maxRecDepth 100000 in
set_option maxHeartbeats 400000 in
theorem end_no (w : World) (b g o n cap : Nat) (l : List UInt8) (at' : Nat) (h : Rd w b g o n cap l at') (hn : 0 < n) :
    Calls Tryz.prog 186 #[.pointer (some ⟨b, 0, none⟩)] w fun r w' => r = .returned (.int .i64 112) ∧ w' = w := by
  have h1 := h.c0
  go_enter Tryz.func186, Tryz.ntmps186
  go_wp2_with fail
  refine (there_any _ _ h.c2).mono ?_
  rintro e w1 ⟨rfl, rfl⟩
  go_wp2
  go_ret
  exact ⟨rfl, rfl⟩
set_option maxRecDepth 100000 in
set_option maxHeartbeats 400000 in
theorem u16_yes (w : World) (b g o n cap : Nat) (l : List UInt8) (at' : Nat) (h : Rd w b g o n cap l at') (hn : 2 ≤ n) :
    Calls Tryz.prog 212 #[.pointer (some ⟨b, 0, none⟩)] w fun e w' => e = .returned (.tuple #[.int .u16 (val (l.take 2)), .int .i64 0]) ∧ ∃ o' cap', Rd w' b g o' (n - 2) cap' (l.drop 2) (at' + 2) ∧ w.grownBy w' (some b) := by
  have hv : val (l.take 2) < 65536 := by
    have h3 := val_lt (l.take 2)
    rw [List.length_take, h.bs.len, Nat.min_eq_left (by omega)] at h3
    exact h3
  go_enter Tryz.func212, Tryz.ntmps212
  go_wp2_with fail
  refine (number_yes _ b g o n cap 2 l at' h (by omega) hn).mono ?_
  rintro e w1 ⟨rfl, o', cap', hr, hg⟩
  go_wp2
  go_ret2
  exact ⟨rfl, _, _, hr, hg⟩
set_option maxRecDepth 100000 in
set_option maxHeartbeats 400000 in
theorem u16_no (w : World) (b g o n cap : Nat) (l : List UInt8) (at' : Nat) (h : Rd w b g o n cap l at') (hn : n < 2) :
    Calls Tryz.prog 212 #[.pointer (some ⟨b, 0, none⟩)] w fun e w' => e = .returned (.tuple #[.int .u16 0, .int .i64 111]) ∧ w' = w := by
  go_enter Tryz.func212, Tryz.ntmps212
  go_wp2_with fail
  refine (number_no _ b g o n cap 2 l at' h hn).mono ?_
  rintro e w1 ⟨rfl, rfl⟩
  go_wp2
  go_ret2
  exact ⟨rfl, rfl⟩
set_option maxRecDepth 100000 in
set_option maxHeartbeats 400000 in
theorem u32_yes (w : World) (b g o n cap : Nat) (l : List UInt8) (at' : Nat) (h : Rd w b g o n cap l at') (hn : 4 ≤ n) :
    Calls Tryz.prog 179 #[.pointer (some ⟨b, 0, none⟩)] w fun e w' => e = .returned (.tuple #[.int .u32 (val (l.take 4)), .int .i64 0]) ∧ ∃ o' cap', Rd w' b g o' (n - 4) cap' (l.drop 4) (at' + 4) ∧ w.grownBy w' (some b) := by
  have hv : val (l.take 4) < 4294967296 := by
    have h3 := val_lt (l.take 4)
    rw [List.length_take, h.bs.len, Nat.min_eq_left (by omega)] at h3
    exact h3
  go_enter Tryz.func179, Tryz.ntmps179
  go_wp2_with fail
  refine (number_yes _ b g o n cap 4 l at' h (by omega) hn).mono ?_
  rintro e w1 ⟨rfl, o', cap', hr, hg⟩
  go_wp2
  go_ret2
  exact ⟨rfl, _, _, hr, hg⟩
set_option maxRecDepth 100000 in
set_option maxHeartbeats 400000 in
theorem i64_no (w : World) (b g o n cap : Nat) (l : List UInt8) (at' : Nat) (h : Rd w b g o n cap l at') (hn : n < 8) :
    Calls Tryz.prog 202 #[.pointer (some ⟨b, 0, none⟩)] w fun e w' => e = .returned (.tuple #[.int .i64 0, .int .i64 111]) ∧ w' = w := by
  go_enter Tryz.func202, Tryz.ntmps202
  go_wp2_with fail
  refine (number_no _ b g o n cap 8 l at' h hn).mono ?_
  rintro e w1 ⟨rfl, rfl⟩
  go_wp2
  go_ret2
  exact ⟨rfl, rfl⟩
set_option maxRecDepth 100000 in
set_option maxHeartbeats 400000 in
theorem i64_yes (w : World) (b g o n cap : Nat) (l : List UInt8) (at' : Nat) (h : Rd w b g o n cap l at') (hn : 8 ≤ n) :
    Calls Tryz.prog 202 #[.pointer (some ⟨b, 0, none⟩)] w fun e w' => e = .returned (.tuple #[.int .i64 (wrap64 (val (l.take 8) : Nat)), .int .i64 0]) ∧ ∃ o' cap', Rd w' b g o' (n - 8) cap' (l.drop 8) (at' + 8) ∧ w.grownBy w' (some b) := by
  go_enter Tryz.func202, Tryz.ntmps202
  go_wp2_with fail
  refine (number_yes _ b g o n cap 8 l at' h (by omega) hn).mono ?_
  rintro e w1 ⟨rfl, o', cap', hr, hg⟩
  go_wp2
  go_ret2
  exact ⟨rfl, _, _, hr, hg⟩
set_option maxRecDepth 100000 in
set_option maxHeartbeats 400000 in
theorem skip_ok (w : World) (b g o n cap k : Nat) (l : List UInt8) (at' : Nat) (h : Rd w b g o n cap l at') (hn : k ≤ n) :
    Calls Tryz.prog 201 #[.pointer (some ⟨b, 0, none⟩), .int .i64 k] w fun e w' => e = .returned (.int .i64 0) ∧ ∃ o' cap', Rd w' b g o' (n - k) cap' (l.drop k) (at' + k) ∧ w.grownBy w' (some b) := by
  have h0 := h.c0
  have hk' : ¬ (k : Int) < 0 := by omega
  have hn' : ¬ (n : Int) < (k : Int) := by omega
  go_enter Tryz.func201, Tryz.ntmps201
  go_wp2_with fail
  refine (there_any _ _ h.c2).mono ?_
  rintro e w1 ⟨rfl, rfl⟩
  go_wp2_with fail
  refine (pass_any _ b g o n cap k l at' h hn).mono ?_
  rintro e w2 ⟨rfl, o', cap', hr2, hg2⟩
  go_wp2
  go_ret
  exact ⟨rfl, _, _, hr2, hg2⟩
end Go.Proofs.YtlghcboenkglnaaGreatDoor.Rec
