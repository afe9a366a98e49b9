import Derived.Test.YtlfgikhjcimppaaE8
import Derived.Test.YtlfgikhjcimppaaG3
import Derived.Test.YtlfgikhjcimppaaG5
import Derived.Deep.RegionLaw
import Derived.BigQuiet

/-
  The document's value: what bytes say.
-/
namespace Go.Proofs.Ytlfgikhjcimppaa
open Go.RowKit
set_option linter.unusedVariables false

set_option maxRecDepth 100000 in
set_option maxHeartbeats 1000000 in
theorem rvalue_any (w : World) (ao : Option Addr) (n cap : Nat) (l : List UInt8) (hb : Bs w ao n cap l) (hn : n ≤ 8) :
    Calls Try.prog 49 #[.slice ao n cap] w fun e w' => e = .returned (.int .u64 (val l : Nat)) ∧ w' = w := by
  have hlen := hb.len
  go_enter Try.func49, Try.ntmps49
  go_wp2_with fail
  go_loopw [3, 4] (fun x i wr => ∃ (j X : Nat), j ≤ n ∧ i = .int .i64 ((j : Int) - 1) ∧ x = .int .u64 X ∧ X < 256 ^ (n - j) ∧ Hid (X = val (l.drop j)) ∧ wr = w) (fun _ i _ => (intOf i + 1).toNat)
  case atStart => exact ⟨n, 0, Nat.le_refl _, rfl, rfl, by simp, (by rw [List.drop_of_length_le (by omega)]; rfl : 0 = val (l.drop n)), rfl⟩
  case round =>
    obtain ⟨j, X, hj, rfl, rfl, hX, hXe, rfl⟩ := hrel
    by_cases h0 : 0 < j
    · obtain ⟨b, o, rfl, hbl⟩ := hb.addr (by omega)
      obtain ⟨k, rfl⟩ : ∃ k, j = k + 1 := ⟨j - 1, by omega⟩
      have hk : k < l.length := by omega
      have hc := hb.at hk
      have hd : decide (0 ≤ ((k : Int))) = true := by simp
      have hX2 : 256 * X + (l[k]).toNat < 256 ^ (n - k) := by
        have h1 := (l[k]).toNat_lt
        have h2 : 256 ^ (n - k) = 256 * 256 ^ (n - (k + 1)) := by rw [← Nat.pow_succ']; congr 1; omega
        rw [h2]
        have h3 : X + 1 ≤ 256 ^ (n - (k + 1)) := hX
        have := Nat.mul_le_mul_left 256 h3
        omega
      have hX3 : 256 ^ (n - k) ≤ 18446744073709551616 := by
        have : 256 ^ (n - k) ≤ 256 ^ 8 := Nat.pow_le_pow_right (by omega) (by omega)
        exact this
      have hX4 : 256 * X + (l[k]).toNat < 18446744073709551616 := by omega
      have hv : Hid (256 * X + (l[k]).toNat = val (l.drop k)) := by show _ = _; rw [val_drop hk, hXe.out]; omega
      have hcast : (((k + 1 : Nat) : Int) - 1) = (k : Int) := by omega
      have k1 : (0 : Int) ≤ (k : Int) := by omega
      have k2 : (k : Int) < (n : Int) := by omega
      have hbt := (l[k]).toNat_lt
      generalize (l[k]).toNat = bt at *
      rw [hcast]
      go_wp2_with fail
      go_roundw
      case rel => exact ⟨k, 256 * X + bt, by omega, by go_num, by go_num, hX2, hv, trivial⟩
      case measure => simp [intOf]
    · obtain rfl : j = 0 := by omega
      have hr : X = val l := by rw [hXe.out, List.drop_zero]
      subst hr
      go_wp2
      go_ret
      exact ⟨rfl, rfl⟩
end Go.Proofs.Ytlfgikhjcimppaa

/-
  The document's records: the walk.
-/
namespace Go.Proofs.Ytlfgikhjcimppaa
open Go.RowKit
set_option linter.unusedVariables false

/-- May the record number j of these bytes be? -/
def Gd (B : List UInt8) (j : Nat) : Prop := posAt B (j + 1) ≤ B.length ∧ val ((B.drop (posAt B j)).take 8) ≤ 9007199254740992 ∧ kAt B (posAt B j) ≤ 256 ∧ vAt B (posAt B j) ≤ 4096

set_option maxRecDepth 100000 in
set_option maxHeartbeats 16000000 in
theorem rrecords_any (w : World) (bb oo m cp : Nat) (B L : List UInt8) (hL : L = B.drop 20) (hb : Bs w (some ⟨bb, oo, none⟩) m cp L) (hBm : B.length = m + 20) (hm : m ≤ 1048576) (N : Nat) (hN : N ≤ 256) :
    Calls Try.prog 50 #[.slice (some ⟨bb, oo, none⟩) m cp, .int .i64 N] w fun e w' => w.grownBy w' none ∧ ((¬ (∀ j, j < N → Gd B j) ∧ e = .returned (.tuple #[.slice none 0 0, .bool false])) ∨
      ((∀ j, j < N → Gd B j) ∧ ∃ ro rc rs, e = .returned (.tuple #[.slice ro N rc, .bool (decide (posAt B N = B.length))]) ∧ Rw w' w.heap.size ro N rc rs ∧ (∀ r ∈ rs, Aw w' w.heap.size (blk ro) r) ∧ (∀ j d, (ds rs)[j]? = some d → Says B (posAt B j) d))) := by
  have hroom := hb.room
  have hcpt := hb.top
  unfold maxLen at hcpt
  have hsl : ∀ (W : World) (p k o' : Nat), w.grownBy W none → p + k ≤ m → o' = oo + p → Bs W (some ⟨bb, o', none⟩) k (cp - p) ((B.drop (20 + p)).take k) := fun W p k o' hW hpk ho => by
    have h9 := ((hb.grown hW).drop p (by omega) o' (Or.inr ho)).take k (by omega)
    rw [hL, List.drop_drop] at h9
    exact h9
  go_enter Try.func50, Try.ntmps50
  go_wp2_with fail
  go_loopw [6, 7, 8, 9, 10, 11, 12] (fun o' at' i' _ _ _ _ wr => ∃ (i A : Nat) (ro : Option Addr) (rc : Nat) (fs : List Rc), i ≤ N ∧ A ≤ m ∧ Hid (posAt B i = 20 + A) ∧ (∀ j, j < i → Gd B j) ∧ o' = .slice ro i rc ∧ at' = .int .i64 A ∧ i' = .int .i64 i ∧ Rw wr w.heap.size ro i rc fs ∧ (∀ r ∈ fs, Aw wr w.heap.size (blk ro) r) ∧ (∀ j d, (ds fs)[j]? = some d → Says B (posAt B j) d) ∧ w.grownBy wr none) (fun _ _ i' _ _ _ _ _ => N - (intOf i').toNat)
  case atStart => exact ⟨0, 0, none, 0, [], Nat.zero_le _, Nat.zero_le _, (rfl : posAt B 0 = 20 + 0), fun j hj => by omega, rfl, rfl, rfl, Rw.nil _ _, fun r hr => (by cases hr), fun j d hd => (by simp [ds] at hd), grown_refl _ _⟩
  case round =>
    obtain ⟨i, A, ro, rc, fs, hi, hA, hpos, hgo, rfl, rfl, rfl, hR, hAw, hSy, hG⟩ := hrel
    have hnext : Hid (posAt B (i + 1) = posAt B i + 12 + kAt B (posAt B i) + vAt B (posAt B i)) := (rfl : posAt B (i + 1) = _)
    by_cases hlt : i < N
    · have hd : decide ((i : Int) < (N : Int)) = true := by simp; omega
      by_cases h12 : m < A + 12
      · have hd2 : decide ((m : Int) - (A : Int) < 12) = true := by simp; omega
        go_wp2
        go_ret2
        exact ⟨hG, Or.inl ⟨fun hall => by have h9 := (hall i hlt).1; have h8 := hnext.out; have h7 := hpos.out; omega, rfl⟩⟩
      have hd2 : decide ((m : Int) - (A : Int) < 12) = false := by simp; omega
      obtain ⟨T, hT⟩ : ∃ T, Hid (T = val ((B.drop (20 + A)).take 8)) := ⟨_, (rfl : val ((B.drop (20 + A)).take 8) = _)⟩
      obtain ⟨KN, hKN⟩ : ∃ T, Hid (T = kAt B (20 + A)) := ⟨_, (rfl : kAt B (20 + A) = _)⟩
      obtain ⟨VN, hVN⟩ : ∃ T, Hid (T = vAt B (20 + A)) := ⟨_, (rfl : vAt B (20 + A) = _)⟩
      have hTl : T < 18446744073709551616 := by rw [hT.out]; exact val_lt8 (by rw [List.length_take]; omega)
      have hkl : KN < 65536 := by
        rw [hKN.out]
        have h3 := val_lt ((B.drop (20 + A + 8)).take 2)
        have h4 : 256 ^ ((B.drop (20 + A + 8)).take 2).length ≤ 256 ^ 2 := Nat.pow_le_pow_right (by omega) (by simp; omega)
        exact Nat.lt_of_lt_of_le h3 h4
      have hvl : VN < 65536 := by
        rw [hVN.out]
        have h3 := val_lt ((B.drop (20 + A + 10)).take 2)
        have h4 : 256 ^ ((B.drop (20 + A + 10)).take 2).length ≤ 256 ^ 2 := Nat.pow_le_pow_right (by omega) (by simp; omega)
        exact Nat.lt_of_lt_of_le h3 h4
      have hv1 := rvalue_any wr _ 8 _ _ (hsl wr A 8 (oo + A) hG (by omega) rfl) (by omega)
      have hv2 := rvalue_any wr _ 2 _ _ (hsl wr (A + 8) 2 (oo + (A + 8)) hG (by omega) rfl) (by omega)
      have hv3 := rvalue_any wr _ 2 _ _ (hsl wr (A + 10) 2 (oo + (A + 10)) hG (by omega) rfl) (by omega)
      rw [← hT.out] at hv1
      rw [show val ((B.drop (20 + (A + 8))).take 2) = KN from hKN.out.symm] at hv2
      rw [show val ((B.drop (20 + (A + 10))).take 2) = VN from hVN.out.symm] at hv3
      have a1 : (0 : Int) ≤ (A : Int) := by omega
      have a2 : (A : Int) ≤ (A : Int) + 8 := by omega
      have a3 : (A : Int) + 8 ≤ (cp : Int) := by omega
      have a4 : (A : Int) + 8 ≤ (A : Int) + 10 := by omega
      have a5 : (A : Int) + 10 ≤ (cp : Int) := by omega
      have a6 : (A : Int) + 10 ≤ (A : Int) + 12 := by omega
      have a7 : (A : Int) + 12 ≤ (cp : Int) := by omega
      have c1 : ¬ cp = A := by omega
      have c2 : ¬ cp = A + 8 := by omega
      have c3 : ¬ cp = A + 10 := by omega
      go_wp2_with fail
      refine hv1.mono ?_
      rintro e w1 ⟨rfl, hw⟩
      obtain rfl : wr = w1 := hw.symm
      clear hw
      go_wp2_with fail
      refine hv2.mono ?_
      rintro e w1 ⟨rfl, hw⟩
      obtain rfl : wr = w1 := hw.symm
      clear hw
      go_wp2_with fail
      refine hv3.mono ?_
      rintro e w1 ⟨rfl, hw⟩
      obtain rfl : wr = w1 := hw.symm
      clear hw hv1 hv2 hv3 a1 a2 a3 a4 a5 a6 a7 c1 c2 c3
      by_cases hb1 : 9007199254740992 < T
      · have t1 : decide ((9007199254740992 : Int) < (T : Int)) = true := by simp; omega
        go_wp2
        go_ret2
        exact ⟨hG, Or.inl ⟨fun hall => by have h9 := (hall i hlt).2.1; rw [hpos.out, ← hT.out] at h9; omega, rfl⟩⟩
      have t1 : decide ((9007199254740992 : Int) < (T : Int)) = false := by simp; omega
      by_cases hb2 : 256 < KN
      · have t2 : decide ((256 : Int) < (KN : Int)) = true := by simp; omega
        go_wp2
        go_ret2
        exact ⟨hG, Or.inl ⟨fun hall => by have h9 := (hall i hlt).2.2.1; rw [hpos.out, ← hKN.out] at h9; omega, rfl⟩⟩
      have t2 : decide ((256 : Int) < (KN : Int)) = false := by simp; omega
      by_cases hb3 : 4096 < VN
      · have t3 : decide ((4096 : Int) < (VN : Int)) = true := by simp; omega
        go_wp2
        go_ret2
        exact ⟨hG, Or.inl ⟨fun hall => by have h9 := (hall i hlt).2.2.2; rw [hpos.out, ← hVN.out] at h9; omega, rfl⟩⟩
      have t3 : decide ((4096 : Int) < (VN : Int)) = false := by simp; omega
      by_cases hb4 : m < A + 12 + (KN + VN)
      · have t4 : decide ((m : Int) - ((A : Int) + 12) < (KN : Int) + (VN : Int)) = true := by simp; omega
        go_wp2
        go_ret2
        exact ⟨hG, Or.inl ⟨fun hall => by have h9 := (hall i hlt).1; have h8 := hnext.out; rw [hpos.out, ← hKN.out, ← hVN.out] at h8; omega, rfl⟩⟩
      have t4 : decide ((m : Int) - ((A : Int) + 12) < (KN : Int) + (VN : Int)) = false := by simp; omega
      go_wp2_with fail
      have ga := alloc_grown wr (.cells #[.int .i64 (T : Int), .slice none 0 0, .slice none 0 0] 42)
      have hr := heap_alloc_new wr (.cells #[.int .i64 (T : Int), .slice none 0 0, .slice none 0 0] 42)
      have hzz : w.heap.size ≤ wr.heap.size := hG.size
      have hzl : wr.heap.size < (wr.alloc (.cells #[.int .i64 (T : Int), .slice none 0 0, .slice none 0 0] 42)).heap.size := by simp
      have hrz := hR.from_base
      generalize wr.alloc (.cells #[.int .i64 (T : Int), .slice none 0 0, .slice none 0 0] 42) = w2 at *
      generalize hz0 : wr.heap.size = zr at *
      have hG2 := grown_trans hG ga (by simp)
      have hd0 := grown_drew w2 none
      have hGd := grown_trans hG2 hd0 (by simp)
      have hrd := heap_kept hd0 hr (by simp)
      have q1 := cell_of (i := 1) (v := .slice none 0 0) hrd rfl
      obtain ⟨D, hD⟩ : ∃ D, Hid (D = A + 12) := ⟨A + 12, (rfl : A + 12 = _)⟩
      obtain ⟨E, hE⟩ : ∃ E, Hid (E = A + 12 + KN) := ⟨A + 12 + KN, (rfl : A + 12 + KN = _)⟩
      obtain ⟨F, hF⟩ : ∃ F, Hid (F = A + 12 + KN + VN) := ⟨A + 12 + KN + VN, (rfl : A + 12 + KN + VN = _)⟩
      have hDs : (A : Int) + 12 = (D : Int) := by have := hD.out; omega
      have hEs : (D : Int) + (KN : Int) = (E : Int) := by have := hD.out; have := hE.out; omega
      have hFs : (E : Int) + (VN : Int) = (F : Int) := by have := hF.out; have := hE.out; omega
      have hDEF : D ≤ E ∧ E ≤ F ∧ F ≤ m ∧ E - D = KN ∧ F - E = VN ∧ D + KN = E ∧ E + VN = F := by have := hD.out; have := hE.out; have := hF.out; omega
      obtain ⟨d1, d2, d3, d4, d5, d6, d7⟩ := hDEF
      have b1 : (0 : Int) ≤ (D : Int) := by omega
      have b2 : (D : Int) ≤ (E : Int) := by omega
      have b3 : (E : Int) ≤ (cp : Int) := by omega
      have b4 : (E : Int) ≤ (F : Int) := by omega
      have b5 : (F : Int) ≤ (cp : Int) := by omega
      have b6 : D ≤ cp := by omega
      have b7 : E ≤ cp := by omega
      have b8 : F ≤ cp := by omega
      have hcut : ∀ p k, p + k ≤ m → ∃ o', (if cp = p then some (⟨bb, oo, none⟩ : Addr) else some ⟨bb, oo + p, none⟩) = some ⟨bb, o', none⟩ ∧ ∀ W, w.grownBy W none → Bs W (some ⟨bb, o', none⟩) k (cp - p) ((B.drop (20 + p)).take k) := fun p k hpk => by
        by_cases hc : cp = p
        · refine ⟨oo, by rw [if_pos hc], fun W hW => ?_⟩
          have h9 := ((hb.grown hW).drop p (by omega) oo (Or.inl (by omega))).take k (by omega)
          rw [hL, List.drop_drop] at h9
          exact h9
        · exact ⟨oo + p, by rw [if_neg hc], fun W hW => hsl W p k _ hW hpk rfl⟩
      obtain ⟨oD, hoD, hbD⟩ := hcut D KN (by omega)
      obtain ⟨oE, hoE, hbE⟩ := hcut E VN (by omega)
      clear hcut hsl
      have hwE : IntKind.i64.wrap (E : Int) = (E : Int) := IntWalk.i64_in _ (by omega)
      have hwF : IntKind.i64.wrap (F : Int) = (F : Int) := IntWalk.i64_in _ (by omega)
      have hsz2 : w.heap.size ≤ w2.heap.size := hG2.size
      go_region_law (refine step_append_bs (by rfl) (.tmp 71) (.tmp 77) 31 (by rfl) w2.heap.size 5 Try.underlying31 Try.info5 (by rfl) (Ow.nil _ _ _) (by rfl) (hbD _ hGd) (by omega) (Nat.le_refl _) KN ((B.drop (20 + D)).take KN) (by omega) (by simp) ?_; intro ak ck w3 ok hg3; have hg3' : w2.drew.grownBy w3 none := hg3; have hr3 := heap_kept hg3' hrd (by simp); have q2 := cell_of (i := 1) (v := .slice none 0 0) hr3 rfl; have q3 := frozen_of hr3)
      have hH3 := grown_trans (grown_trans ga hd0 (by simp)) hg3' (by simp)
      have hsc := setCell_grown w3 zr 1 (.slice ak KN ck)
      have hH4 := grown_trans hH3 hsc (fun k hk => Or.inr (by cases hk; omega))
      have hr4 : (w3.setCell ⟨zr, 1, none⟩ (.slice ak KN ck)).heap[zr]? = some (.cells #[.int .i64 (T : Int), .slice ak KN ck, .slice none 0 0] 42) := by
        rw [setCell_eq_setRow w3 zr 1 _ 42 (0, 0) _ hr3]
        exact setRow_heap w3 zr _ _ 42 _ hr3
      have hzk : ∀ k, blk ak = some k → zr < k := fun k hk => by have := (ok.from_base k hk).1; omega
      have ok4 := ok.kept hsc (by
        cases hk : blk ak with
        | none => exact Or.inl rfl
        | some k => right; have := hzk k hk; simp; omega)
      have hG4 := grown_trans hG hH4 (by simp)
      have hS4 := hH4.size
      have hsz4 : w2.heap.size ≤ (w3.setCell ⟨zr, 1, none⟩ (.slice ak KN ck)).heap.size := Nat.le_trans (Nat.le_trans hd0.size hg3'.size) hsc.size
      clear hsc hr3 q1 q2 q3 hg3 hg3' hH3 ok hrd hr hGd hd0
      generalize w3.setCell ⟨zr, 1, none⟩ (.slice ak KN ck) = w4 at *
      go_wp2_with fail
      have hd0 := grown_drew w4 none
      have hGd := grown_trans hG4 hd0 (by simp)
      have hrd := heap_kept hd0 hr4 (by simp)
      have q1 := cell_of (i := 2) (v := .slice none 0 0) hrd rfl
      go_region_law (refine step_append_bs (by rfl) (.tmp 81) (.tmp 91) 31 (by rfl) w4.heap.size 5 Try.underlying31 Try.info5 (by rfl) (Ow.nil _ _ _) (by rfl) (hbE _ hGd) (by omega) (Nat.le_refl _) VN ((B.drop (20 + E)).take VN) (by omega) (by simp) ?_; intro av cv w5 ov hg5; have hg5' : w4.drew.grownBy w5 none := hg5; have hr5 := heap_kept hg5' hrd (by simp); have q2 := cell_of (i := 2) (v := .slice none 0 0) hr5 rfl; have q3 := frozen_of hr5)
      have hg45 := grown_trans hd0 hg5' (by simp)
      have hH5 := grown_trans hH4 hg45 (by simp)
      have hsc := setCell_grown w5 zr 2 (.slice av VN cv)
      have hH6 := grown_trans hH5 hsc (fun k hk => Or.inr (by cases hk; omega))
      have hr6 : (w5.setCell ⟨zr, 2, none⟩ (.slice av VN cv)).heap[zr]? = some (.cells #[.int .i64 (T : Int), .slice ak KN ck, .slice av VN cv] 42) := by
        rw [setCell_eq_setRow w5 zr 2 _ 42 (0, 0) _ hr5]
        exact setRow_heap w5 zr _ _ 42 _ hr5
      have hzv : ∀ k, blk av = some k → w2.heap.size ≤ k := fun k hk => Nat.le_trans hsz4 (ov.from_base k hk).1
      have hzk' : ∀ k, blk ak = some k → w2.heap.size ≤ k := fun k hk => (ok4.from_base k hk).1
      have ov6 := ov.kept hsc (by
        cases hk : blk av with
        | none => exact Or.inl rfl
        | some k => right; have := hzv k hk; simp; omega)
      have ok6 := (ok4.grown hg45).kept hsc (by
        cases hk : blk ak with
        | none => exact Or.inl rfl
        | some k => right; have := hzk k hk; simp; omega)
      have hG6 := grown_trans hG hH6 (by simp)
      clear hsc hr5 q1 q2 q3 hg5 hg5' hH5 hg45 ov ok4 hr4 hrd hGd hd0 hG4 hH4
      generalize w5.setCell ⟨zr, 2, none⟩ (.slice av VN cv) = w6 at *
      have x0 := cell_of (i := 0) (v := .int .i64 (T : Int)) hr6 rfl
      have x1 := cell_of (i := 1) (v := .slice ak KN ck) hr6 rfl
      have x2 := cell_of (i := 2) (v := .slice av VN cv) hr6 rfl
      have ga7 := alloc_grown w6 (.cells #[.int .i64 (T : Int), .slice ak KN ck, .slice av VN cv] 42)
      have h7 := heap_alloc_new w6 (.cells #[.int .i64 (T : Int), .slice ak KN ck, .slice av VN cv] 42)
      have y0 := cell_of (i := 0) (v := .int .i64 (T : Int)) h7 rfl
      have y1 := cell_of (i := 1) (v := .slice ak KN ck) h7 rfl
      have y2 := cell_of (i := 2) (v := .slice av VN cv) h7 rfl
      have hH7 := grown_trans hH6 ga7 (by simp)
      have hG7 := grown_trans hG6 ga7 (by simp)
      have hR7 := hR.kept hH7 (by cases ro <;> simp [blk])
      have hnew : Aw (w6.alloc (.cells #[.int .i64 (T : Int), .slice ak KN ck, .slice av VN cv] 42)) w.heap.size (blk ro) ⟨T, ak, KN, ck, (B.drop (20 + D)).take KN, av, VN, cv, (B.drop (20 + E)).take VN⟩ := by
        refine ⟨⟨by show -9223372036854775808 ≤ (T : Int); omega, by show (T : Int) < 9223372036854775808; omega, (ok6.grown ga7).shows, (ov6.grown ga7).shows, by show KN ≤ _; omega, by show VN ≤ _; omega⟩, fun a ha => ?_, fun a ha => ?_⟩
        · have u1 := hzk' a.block (by rw [show ak = some a from ha]; rfl)
          have u2 := (ok6.from_base a.block (by rw [show ak = some a from ha]; rfl)).2
          refine ⟨by omega, Nat.lt_of_lt_of_le u2 ga7.size, fun e => ?_⟩
          have := (hrz _ e.symm).2
          omega
        · have u1 := hzv a.block (by rw [show av = some a from ha]; rfl)
          have u2 := (ov6.from_base a.block (by rw [show av = some a from ha]; rfl)).2
          refine ⟨by omega, Nat.lt_of_lt_of_le u2 ga7.size, fun e => ?_⟩
          have := (hrz _ e.symm).2
          omega
      go_wp2_with (at_builtin; refine wpList_append_lying rfl rfl _ _ rfl w.heap.size ro i rc fs rfl hR7 ⟨T, ak, KN, ck, (B.drop (20 + D)).take KN, av, VN, cv, (B.drop (20 + E)).take VN⟩ w6.heap.size rfl y0 y1 y2 (by omega) hG7.size ?_)
      intro g8 rc8 w8 hR8 hg8 hlie
      have hlie' : some g8 = blk ro ∨ some g8 = some (w6.alloc (.cells #[.int .i64 (T : Int), .slice ak KN ck, .slice av VN cv] 42)).heap.size := by simpa using hlie
      have hG8 := grown_trans hG7 hg8 (fun k hk => Or.inr (hR.from_base k hk).1)
      have hA8 : ∀ r ∈ fs ++ [(⟨T, ak, KN, ck, (B.drop (20 + D)).take KN, av, VN, cv, (B.drop (20 + E)).take VN⟩ : Rc)], Aw w8 w.heap.size (some g8) r := fun r hr => by
        rcases List.mem_append.1 hr with hr | hr
        · exact ((hAw r hr).grown hH7).append hg8 hlie'
        · obtain rfl : r = _ := by simpa using hr
          exact hnew.append hg8 hlie'
      have hfl : fs.length = i := hR.len
      have hS8 : ∀ j d, (ds (fs ++ [(⟨T, ak, KN, ck, (B.drop (20 + D)).take KN, av, VN, cv, (B.drop (20 + E)).take VN⟩ : Rc)]))[j]? = some d → Says B (posAt B j) d := fun j d hq => by
        unfold ds at hq
        rw [List.map_append] at hq
        by_cases hj : j < fs.length
        · rw [List.getElem?_append_left (by simpa using hj)] at hq
          exact hSy j d hq
        · rw [List.getElem?_append_right (by simpa using hj), List.length_map] at hq
          have hj0 : j - fs.length = 0 := by
            rcases Nat.eq_zero_or_pos (j - fs.length) with h | h
            · exact h
            · rw [List.getElem?_eq_none (by simp; omega)] at hq; cases hq
          rw [hj0] at hq
          obtain rfl : j = i := by omega
          have hd2 : some (Rc.d (⟨T, ak, KN, ck, (B.drop (20 + D)).take KN, av, VN, cv, (B.drop (20 + E)).take VN⟩ : Rc)) = some d := hq
          cases hd2
          rw [hpos.out]
          refine ⟨?_, ?_, ?_⟩
          · show (T : Int) = tAt B (20 + A)
            unfold tAt wrap64
            rw [← hT.out]
            omega
          · show (B.drop (20 + D)).take KN = _
            rw [← hKN.out, hD.out]
            rfl
          · show (B.drop (20 + E)).take VN = _
            rw [← hKN.out, ← hVN.out, show 20 + E = 20 + A + 12 + KN by have := hE.out; omega]
      have hpn : Hid (posAt B (i + 1) = 20 + F) := by show _ = _; rw [hnext.out, hpos.out, ← hKN.out, ← hVN.out]; have := hF.out; omega
      have hgo8 : ∀ j, j < i + 1 → Gd B j := fun j hj => by
        by_cases hji : j < i
        · exact hgo j hji
        · obtain rfl : j = i := by omega
          refine ⟨by rw [hpn.out]; omega, ?_, ?_, ?_⟩
          · rw [hpos.out, ← hT.out]; omega
          · rw [hpos.out, ← hKN.out]; omega
          · rw [hpos.out, ← hVN.out]; omega
      clear x0 x1 x2 y0 y1 y2 h7 hr6 hR hAw hSy hgo hnew hR7 ok6 ov6 hg8 hlie hlie' hH6 hH7 ga7 hG7 hG6
      go_wp2
      go_roundw
      case rel => exact ⟨i + 1, F, _, _, _, by omega, by omega, hpn, hgo8, rfl, by go_num, by go_num, hR8, hA8, hS8, hG8⟩
      case measure => simp [intOf]; omega
    · obtain rfl : i = N := by omega
      have hd : decide ((i : Int) < (i : Int)) = false := by simp
      have hfin : Hid (((A : Int) == (m : Int)) = decide (posAt B i = B.length)) := by
        show _ = _
        rw [hpos.out, hBm]
        by_cases h : A = m
        · subst h
          rw [decide_eq_true (by omega)]
          simp
        · rw [decide_eq_false (by omega)]
          simp; omega
      go_wp2
      go_ret2
      exact ⟨hG, Or.inr ⟨hgo, ro, rc, fs, by rw [← hfin.out]; rfl, hR, hAw, hSy⟩⟩
end Go.Proofs.Ytlfgikhjcimppaa

/-
  A whole batch, in the document's words.
-/
namespace Go.Proofs.Ytlfgikhjcimppaa
open Go.RowKit
set_option linter.unusedVariables false

/-- What the document asks of a batch's bytes behind their length. -/
structure Dw (B : List UInt8) : Prop where
  sum : sm (B.drop 8) = val ((B.drop 4).take 4)
  base : val ((B.drop 8).take 8) ≤ 9007199254740992
  low : 1 ≤ cAt B
  most : cAt B ≤ 256
  last : val ((B.drop 8).take 8) + cAt B ≤ 9007199254740993
  recs : ∀ j, j < cAt B → Gd B j
  fin : posAt B (cAt B) = B.length

theorem wrap64_pos {v : Nat} (hv : v < 18446744073709551616) (h : 0 ≤ wrap64 (v : Int)) : wrap64 (v : Int) = v := by
  unfold wrap64 at *
  omega
theorem wrap64_small {v : Nat} (hv : v ≤ 9007199254740992) : wrap64 (v : Int) = v := by
  unfold wrap64
  omega
theorem val8 (B : List UInt8) (p : Nat) : val ((B.drop p).take 8) < 18446744073709551616 := val_lt8 (by rw [List.length_take]; omega)

theorem may_parts {r : Rc} (h : mayR r = true) : 0 ≤ r.t ∧ r.t ≤ 9007199254740992 ∧ r.kn ≤ 256 ∧ r.vn ≤ 4096 := by
  unfold mayR mayB at h
  simp only [Bool.and_eq_true, decide_eq_true_eq] at h
  exact h
theorem may_mk {r : Rc} (h1 : 0 ≤ r.t) (h2 : r.t ≤ 9007199254740992) (h3 : r.kn ≤ 256) (h4 : r.vn ≤ 4096) : mayR r = true := by
  unfold mayR mayB
  simp only [Bool.and_eq_true, decide_eq_true_eq]
  exact ⟨h1, h2, h3, h4⟩

/-- Records as they stand in the bytes, without their bytes. -/
def mkR (B : List UInt8) (j : Nat) : Rc := ⟨tAt B (posAt B j), none, kAt B (posAt B j), 0, [], none, vAt B (posAt B j), 0, []⟩

theorem szs_pos {B : List UInt8} {rs : List Rc} (hr : ∀ j r, rs[j]? = some r → r.kn = kAt B (posAt B j) ∧ r.vn = vAt B (posAt B j)) : ∀ j, j ≤ rs.length → 20 + szs (rs.take j) = posAt B j
  | 0, _ => by simp [szs, posAt]
  | j + 1, hj => by
    have ih := szs_pos hr j (by omega)
    obtain ⟨h1, h2⟩ := hr j rs[j] (by simp)
    rw [szs_snoc (by omega), h1, h2]
    have hp : posAt B (j + 1) = posAt B j + 12 + kAt B (posAt B j) + vAt B (posAt B j) := rfl
    omega

theorem whole_dw {B : List UInt8} (h32 : 32 ≤ B.length) (htop : B.length ≤ 65536) : Whole B B.length ↔ Dw B := by
  constructor
  · intro h
    have hm := h.meas ((List.range (cAt B)).map (mkR B)) (by simp) (fun j r hr => by
      rw [List.getElem?_map] at hr
      by_cases hj : j < cAt B
      · rw [List.getElem?_range hj] at hr
        cases hr
        exact ⟨rfl, rfl, rfl⟩
      · rw [List.getElem?_eq_none (by simp; omega)] at hr; cases hr)
    obtain ⟨m1, m2, m3⟩ := meas_ok hm
    obtain ⟨f1, f2, f3, f4, f5⟩ := fits_ok m1
    simp only [List.length_map, List.length_range] at m2 f3
    have hc : 1 ≤ cAt B := by
      rcases Nat.eq_zero_or_pos (cAt B) with h0 | h0
      · rw [h0] at f2; exact (f2 rfl).elim
      · exact h0
    unfold offB at m2
    simp only [Bool.and_eq_true, decide_eq_true_eq] at m2
    obtain ⟨o1, o2⟩ := m2
    have o1' : 0 ≤ wrap64 (val ((B.drop 8).take 8) : Nat) := o1
    have o2' : wrap64 (val ((B.drop 8).take 8) : Nat) ≤ 9007199254740992 - ((cAt B : Int) - 1) := o2
    have hb := wrap64_pos (val8 B 8) o1'
    rw [hb] at o2'
    have q1 : val ((B.drop 8).take 8) ≤ 9007199254740992 ∧ val ((B.drop 8).take 8) + cAt B ≤ 9007199254740993 := by
      generalize val ((B.drop 8).take 8) = V at *
      generalize cAt B = C at *
      omega
    refine ⟨h.sum.symm, q1.1, hc, f3, q1.2, fun j hj => ?_, h.fin⟩
    have hmj := List.all_eq_true.1 f1 (mkR B j) (List.mem_map.2 ⟨j, List.mem_range.2 hj, rfl⟩)
    obtain ⟨e1, e2, e3, e4⟩ := may_parts hmj
    have k1 := h.ins j hj
    have e1' : 0 ≤ wrap64 (val ((B.drop (posAt B j)).take 8) : Nat) := e1
    have e2' : wrap64 (val ((B.drop (posAt B j)).take 8) : Nat) ≤ 9007199254740992 := e2
    have e3' : kAt B (posAt B j) ≤ 256 := e3
    have e4' : vAt B (posAt B j) ≤ 4096 := e4
    have ht := wrap64_pos (val8 B (posAt B j)) e1'
    rw [ht] at e2'
    have k2 : val ((B.drop (posAt B j)).take 8) ≤ 9007199254740992 := Int.ofNat_le.1 e2'
    unfold Gd
    exact ⟨k1, k2, e3', e4'⟩
  · intro h
    refine ⟨h32, htop, h.sum.symm, h.fin, fun j hj => (h.recs j hj).1, fun rs hl hr => ?_⟩
    have h1 : rs.all mayR = true := by
      rw [List.all_eq_true]
      intro r hm
      obtain ⟨j, hj⟩ := List.getElem?_of_mem hm
      have hjl : j < cAt B := by rw [← hl]; exact (List.getElem?_eq_some_iff.1 hj).1
      obtain ⟨e1, e2, e3⟩ := hr j r hj
      obtain ⟨g1, g2, g3, g4⟩ := h.recs j hjl
      have ht : tAt B (posAt B j) = (val ((B.drop (posAt B j)).take 8) : Nat) := wrap64_small g2
      refine may_mk ?_ ?_ ?_ ?_
      · rw [e1, ht]; exact Int.natCast_nonneg _
      · rw [e1, ht]; exact Int.ofNat_le.2 g2
      · rw [e2]; exact g3
      · rw [e3]; exact g4
    have h2 : rs ≠ [] := fun e => by have := h.low; rw [e] at hl; simp at hl; omega
    have h3 : 20 + szs rs = B.length := by
      have := szs_pos (B := B) (rs := rs) (fun j r hjr => (hr j r hjr).2) rs.length (Nat.le_refl _)
      rw [List.take_length, hl, h.fin] at this
      exact this
    have hf : fitsR rs = (20 + szs rs, 0) := by
      unfold fitsR
      rw [if_neg (by simp [h1, h2]), if_neg (by have := h.most; omega)]
    have hb : bAt B = (val ((B.drop 8).take 8) : Nat) := wrap64_small h.base
    have ho : offB (bAt B) rs.length = true := by
      have q1 := h.last
      unfold offB
      rw [hb, hl]
      simp only [Bool.and_eq_true, decide_eq_true_eq]
      generalize val ((B.drop 8).take 8) = V at *
      generalize cAt B = C at *
      omega
    unfold measR
    rw [hf, ho]
    simp
end Go.Proofs.Ytlfgikhjcimppaa

/-
  The document's Read: the walk.
-/
namespace Go.Proofs.Ytlfgikhjcimppaa
open Go.RowKit
set_option linter.unusedVariables false

theorem Rw.rebase {w : World} {base base' : Nat} {ao : Option Addr} {n cap : Nat} {rs : List Rc} (h : Rw w base ao n cap rs) (hb : base' ≤ base) : Rw w base' ao n cap rs := by
  refine ⟨h.len, h.row.1, ?_⟩
  rcases h.row.2 with h2 | ⟨g, c, cur, hv, hg, r⟩
  · exact Or.inl h2
  · exact Or.inr ⟨g, c, cur, hv, Nat.le_trans hb hg, r⟩
theorem Aw.rebase {w : World} {base base' : Nat} {row : Option Nat} {r : Rc} (h : Aw w base row r) (hb : base' ≤ base) : Aw w base' row r :=
  ⟨h.rk, fun a ha => ⟨Nat.le_trans hb (h.kin a ha).1, (h.kin a ha).2⟩, fun a ha => ⟨Nat.le_trans hb (h.vin a ha).1, (h.vin a ha).2⟩⟩
/-- Another block, below it, is written. -/
theorem Aw.other {w w' : World} {base z : Nat} {row : Option Nat} {r : Rc} (h : Aw w base row r) (hg : w.grownBy w' (some z)) (hz : z < base) : Aw w' base row r :=
  ⟨⟨h.rk.low, h.rk.high, h.rk.key.kept hg (fun a ha e => by have h1 := (h.kin a ha).1; have h2 := Option.some.inj e; omega), h.rk.value.kept hg (fun a ha e => by have h1 := (h.vin a ha).1; have h2 := Option.some.inj e; omega), h.rk.kb, h.rk.vb⟩,
    fun a ha => ⟨(h.kin a ha).1, Nat.lt_of_lt_of_le (h.kin a ha).2.1 hg.size, (h.kin a ha).2.2⟩, fun a ha => ⟨(h.vin a ha).1, Nat.lt_of_lt_of_le (h.vin a ha).2.1 hg.size, (h.vin a ha).2.2⟩⟩

set_option maxRecDepth 100000 in
set_option maxHeartbeats 2000000 in
theorem rread_bad (w : World) (ao : Option Addr) (n cap : Nat) (at' : Int) (h : plcB n at' = false) :
    Calls Try.prog 28 #[.slice ao n cap, .int .i64 at'] w fun e w' => e = .returned (.tuple #[.agg #[.int .i64 0, .slice none 0 0], .int .i64 0, .int .i64 4]) ∧ w.grownBy w' none := by
  have hg0 := alloc_grown w (.cells #[.int .i64 0, .slice none 0 0] 35)
  have k0 := heap_alloc_new w (.cells #[.int .i64 0, .slice none 0 0] 35)
  obtain ⟨z, hz⟩ : ∃ z, w.heap.size = z := ⟨_, rfl⟩
  rw [hz] at k0
  have d0 := cell_of (i := 0) (v := .int .i64 0) k0 rfl
  have d1 := cell_of (i := 1) (v := .slice none 0 0) k0 rfl
  have df := frozen_of k0
  by_cases hneg : at' < 0
  · have e1 : decide (at' < 0) = true := by simpa using hneg
    go_enter Try.func28, Try.ntmps28
    go_wp2_with fail
    refine bodyPost_ret (v := .tuple #[.agg #[.int .i64 0, .slice none 0 0], .int .i64 0, .int .i64 4]) (by simp [results, Try.results28, go_sem, d0, d1]) rfl ?_
    exact ⟨rfl, hg0⟩
  · have e1 : decide (at' < 0) = false := by simpa using hneg
    have e2 : decide ((n : Int) < at') = true := by
      unfold plcB at h
      simp only [Bool.and_eq_false_iff, decide_eq_false_iff_not] at h
      simp
      omega
    go_enter Try.func28, Try.ntmps28
    go_wp2_with fail
    refine bodyPost_ret (v := .tuple #[.agg #[.int .i64 0, .slice none 0 0], .int .i64 0, .int .i64 4]) (by simp [results, Try.results28, go_sem, d0, d1]) rfl ?_
    exact ⟨rfl, hg0⟩

set_option maxRecDepth 100000 in
set_option maxHeartbeats 2000000 in
theorem rread_nil (w : World) :
    Calls Try.prog 28 #[.slice none 0 0, .int .i64 0] w fun e w' => e = .returned (.tuple #[.agg #[.int .i64 0, .slice none 0 0], .int .i64 0, .int .i64 150]) ∧ w.grownBy w' none := by
  have hg0 := alloc_grown w (.cells #[.int .i64 0, .slice none 0 0] 35)
  have k0 := heap_alloc_new w (.cells #[.int .i64 0, .slice none 0 0] 35)
  obtain ⟨z, hz⟩ : ∃ z, w.heap.size = z := ⟨_, rfl⟩
  rw [hz] at k0
  have d0 := cell_of (i := 0) (v := .int .i64 0) k0 rfl
  have d1 := cell_of (i := 1) (v := .slice none 0 0) k0 rfl
  have df := frozen_of k0
  go_enter Try.func28, Try.ntmps28
  go_wp2_with fail
  refine bodyPost_ret (v := .tuple #[.agg #[.int .i64 0, .slice none 0 0], .int .i64 0, .int .i64 150]) (by simp [results, Try.results28, go_sem, d0, d1]) rfl ?_
  exact ⟨rfl, hg0⟩

set_option maxRecDepth 100000 in
set_option maxHeartbeats 16000000 in
theorem rread_any (w : World) (b o n cap i : Nat) (L : List UInt8) (hb : Bs w (some ⟨b, o, none⟩) n cap L) (hi : i ≤ n) (hn : n ≤ 1048576) (hcap : cap ≤ 9223372036854775807) :
    Calls Try.prog 28 #[.slice (some ⟨b, o, none⟩) n cap, .int .i64 i] w fun e w' => w.grownBy w' none ∧ ((∃ C, NoAt (L.drop i) C ∧ e = .returned (.tuple #[.agg #[.int .i64 0, .slice none 0 0], .int .i64 0, .int .i64 C])) ∨
      (∃ S ro rc rs, extR (L.drop i) = (S, 0) ∧ Whole ((L.drop i).take S) S ∧ e = .returned (.tuple #[.agg #[.int .i64 (bAt ((L.drop i).take S)), .slice ro (cAt ((L.drop i).take S)) rc], .int .i64 S, .int .i64 0]) ∧ Rw w' w.heap.size ro (cAt ((L.drop i).take S)) rc rs ∧ (∀ r ∈ rs, Aw w' w.heap.size (blk ro) r) ∧ (∀ j d, (ds rs)[j]? = some d → Says ((L.drop i).take S) (posAt ((L.drop i).take S) j) d))) := by
  have hroom := hb.room
  have hlen := hb.len
  have hg0 := alloc_grown w (.cells #[.int .i64 0, .slice none 0 0] 35)
  have k0 := heap_alloc_new w (.cells #[.int .i64 0, .slice none 0 0] 35)
  have e1 : decide ((i : Int) < 0) = false := by simp
  have e2 : decide ((n : Int) < (i : Int)) = false := by simp; omega
  obtain ⟨oI, hoI, hoI2⟩ : ∃ o', (if cap = i then some (⟨b, o, none⟩ : Addr) else some ⟨b, o + i, none⟩) = some ⟨b, o', none⟩ ∧ (n - i = 0 ∨ o' = o + i) := by
    by_cases hc : cap = i
    · exact ⟨o, by rw [if_pos hc], Or.inl (by omega)⟩
    · exact ⟨o + i, by rw [if_neg hc], Or.inr rfl⟩
  have hbD := hb.drop i hi oI hoI2
  obtain ⟨D, hD⟩ : ∃ D, D = L.drop i := ⟨_, rfl⟩
  rw [← hD] at hbD ⊢
  have hDl : Hid (D.length = n - i) := by show _ = _; rw [hD, List.length_drop, hlen]
  obtain ⟨m, hm⟩ : ∃ m, Hid (m = n - i) := ⟨n - i, (rfl : _ = _)⟩
  rw [← hm.out] at hbD hDl
  have hmi : n - i = m := hm.out.symm
  have i1 : (i : Int) ≤ (n : Int) := by omega
  have i2 : (i : Int) ≤ (cap : Int) := by omega
  have i0 : (0 : Int) ≤ (i : Int) := by omega
  clear hD hoI2
  have hEx : Hid (extR D = if m = 0 then (0, 150) else if m < 4 then (0, 151) else if val (D.take 4) < 28 ∨ 65532 < val (D.take 4) then (0, 152) else if m < 4 + val (D.take 4) then (0, 151) else (4 + val (D.take 4), 0)) := by
    show _ = _
    unfold extR
    rw [hDl.out]
  obtain ⟨z, hz⟩ : ∃ z, w.heap.size = z := ⟨_, rfl⟩
  rw [hz] at k0
  have d0 := cell_of (i := 0) (v := .int .i64 0) k0 rfl
  have d1 := cell_of (i := 1) (v := .slice none 0 0) k0 rfl
  have df := frozen_of k0
  by_cases h0 : m = 0
  · have f0 : ((m : Int) == 0) = true := by simp; omega
    go_enter Try.func28, Try.ntmps28
    go_wp2_with fail
    refine bodyPost_ret (v := .tuple #[.agg #[.int .i64 0, .slice none 0 0], .int .i64 0, .int .i64 150]) (by simp [results, Try.results28, go_sem, d0, d1]) rfl ?_
    exact ⟨hg0, Or.inl ⟨150, ⟨by omega, Or.inl (by rw [hEx.out, if_pos h0])⟩, rfl⟩⟩
  have f0 : ((m : Int) == 0) = false := by simp; omega
  by_cases h4 : m < 4
  · have f1 : decide ((m : Int) < 4) = true := by simp; omega
    go_enter Try.func28, Try.ntmps28
    go_wp2_with fail
    refine bodyPost_ret (v := .tuple #[.agg #[.int .i64 0, .slice none 0 0], .int .i64 0, .int .i64 151]) (by simp [results, Try.results28, go_sem, d0, d1]) rfl ?_
    exact ⟨hg0, Or.inl ⟨151, ⟨by omega, Or.inl (by rw [hEx.out, if_neg h0, if_pos h4])⟩, rfl⟩⟩
  have f1 : decide ((m : Int) < 4) = false := by simp; omega
  obtain ⟨cc, hcc⟩ : ∃ cc, cap - i = cc := ⟨_, rfl⟩
  have hmc : m ≤ cc := by have := hm.out; omega
  have j1 : (4 : Int) ≤ (cc : Int) := by omega
  have j2 : 4 ≤ cc := by omega
  rw [hcc] at hbD
  have hci : ¬ cap = i := by omega
  rw [if_neg hci] at hoI
  obtain rfl : o + i = oI := by simpa using hoI
  clear hoI
  obtain ⟨V, hV⟩ : ∃ V, Hid (V = val (D.take 4)) := ⟨_, (rfl : val (D.take 4) = _)⟩
  have hVl : V < 4294967296 := by
    rw [hV.out]
    have h3 := val_lt (D.take 4)
    have h9 : 256 ^ (D.take 4).length ≤ 256 ^ 4 := Nat.pow_le_pow_right (by omega) (by simp; omega)
    exact Nat.lt_of_lt_of_le h3 h9
  rw [← hV.out] at hEx
  rw [if_neg h0, if_neg h4] at hEx
  have hvC := fun W (hW : w.grownBy W none) => rvalue_any W _ 4 _ _ ((hbD.grown hW).take 4 (by omega)) (by omega)
  rw [← hV.out] at hvC
  go_enter Try.func28, Try.ntmps28
  go_wp2_with fail
  clear d0 d1 df
  generalize w.alloc (.cells #[.int .i64 0, .slice none 0 0] 35) = w0 at *
  refine (hvC _ hg0).mono ?_
  rintro e w1 ⟨rfl, hw⟩
  obtain rfl : w0 = w1 := hw.symm
  clear hw hvC
  by_cases h28 : V < 28
  · have g1 : decide ((V : Int) < 28) = true := by simp; omega
    obtain ⟨y0, y1, hGf⟩ := two_set (Nat.le_of_eq hz) k0 hg0 (.int .i64 0) (.slice none 0 0)
    have d0 := cell_of (i := 0) (v := .int .i64 0) k0 rfl
    have d1 := cell_of (i := 1) (v := .slice none 0 0) k0 rfl
    have df := frozen_of k0
    go_wp2_with fail
    generalize ((w0.setCell ⟨z, 0, none⟩ (.int .i64 0)).setCell ⟨z, 1, none⟩ (.slice none 0 0)) = w9 at *
    refine bodyPost_ret (v := .tuple #[.agg #[.int .i64 0, .slice none 0 0], .int .i64 0, .int .i64 152]) (by simp [results, Try.results28, go_sem, y0, y1]) rfl ?_
    exact ⟨hGf, Or.inl ⟨152, ⟨by omega, Or.inl (by rw [hEx.out, if_pos (Or.inl h28)])⟩, rfl⟩⟩
  have g1 : decide ((V : Int) < 28) = false := by simp; omega
  by_cases h65 : 65532 < V
  · have g2 : decide ((65532 : Int) < (V : Int)) = true := by simp; omega
    obtain ⟨y0, y1, hGf⟩ := two_set (Nat.le_of_eq hz) k0 hg0 (.int .i64 0) (.slice none 0 0)
    have d0 := cell_of (i := 0) (v := .int .i64 0) k0 rfl
    have d1 := cell_of (i := 1) (v := .slice none 0 0) k0 rfl
    have df := frozen_of k0
    go_wp2_with fail
    generalize ((w0.setCell ⟨z, 0, none⟩ (.int .i64 0)).setCell ⟨z, 1, none⟩ (.slice none 0 0)) = w9 at *
    refine bodyPost_ret (v := .tuple #[.agg #[.int .i64 0, .slice none 0 0], .int .i64 0, .int .i64 152]) (by simp [results, Try.results28, go_sem, y0, y1]) rfl ?_
    exact ⟨hGf, Or.inl ⟨152, ⟨by omega, Or.inl (by rw [hEx.out, if_pos (Or.inr h65)])⟩, rfl⟩⟩
  have g2 : decide ((65532 : Int) < (V : Int)) = false := by simp; omega
  rw [if_neg (by omega)] at hEx
  by_cases hsh : m < 4 + V
  · have g3 : decide ((m : Int) - 4 < (V : Int)) = true := by simp; omega
    obtain ⟨y0, y1, hGf⟩ := two_set (Nat.le_of_eq hz) k0 hg0 (.int .i64 0) (.slice none 0 0)
    have d0 := cell_of (i := 0) (v := .int .i64 0) k0 rfl
    have d1 := cell_of (i := 1) (v := .slice none 0 0) k0 rfl
    have df := frozen_of k0
    go_wp2_with fail
    generalize ((w0.setCell ⟨z, 0, none⟩ (.int .i64 0)).setCell ⟨z, 1, none⟩ (.slice none 0 0)) = w9 at *
    refine bodyPost_ret (v := .tuple #[.agg #[.int .i64 0, .slice none 0 0], .int .i64 0, .int .i64 151]) (by simp [results, Try.results28, go_sem, y0, y1]) rfl ?_
    exact ⟨hGf, Or.inl ⟨151, ⟨by omega, Or.inl (by rw [hEx.out, if_pos hsh])⟩, rfl⟩⟩
  have g3 : decide ((m : Int) - 4 < (V : Int)) = false := by simp; omega
  rw [if_neg hsh] at hEx
  obtain ⟨S, hS⟩ : ∃ S, Hid (S = 4 + V) := ⟨4 + V, (rfl : _ = _)⟩
  rw [← hS.out] at hEx
  have hSs : (4 : Int) + (V : Int) = (S : Int) := by have := hS.out; omega
  have hSb : 32 ≤ S ∧ S ≤ 65536 ∧ S ≤ m := by have := hS.out; omega
  obtain ⟨S1, S2, S3⟩ := hSb
  obtain ⟨B, hB⟩ : ∃ B, Hid (B = D.take S) := ⟨_, (rfl : D.take S = _)⟩
  have hBl : Hid (B.length = S) := by show _ = _; rw [hB.out, List.length_take, hDl.out]; omega
  have hdt : ∀ p k, p + k ≤ S → (B.drop p).take k = (D.drop p).take k := fun p k hpk => by
    rw [hB.out, List.drop_take, List.take_take, Nat.min_eq_left (by omega)]
  obtain ⟨p8, hp8⟩ : ∃ p, o + i + 8 = p := ⟨_, rfl⟩
  obtain ⟨p16, hp16⟩ : ∃ p, p8 + 8 = p := ⟨_, rfl⟩
  obtain ⟨p20, hp20⟩ : ∃ p, p8 + 12 = p := ⟨_, rfl⟩
  obtain ⟨p4, hp4⟩ : ∃ p, o + i + 4 = p := ⟨_, rfl⟩
  obtain ⟨c8, hc8⟩ : ∃ c, cc - 8 = c := ⟨_, rfl⟩
  obtain ⟨c16, hc16⟩ : ∃ c, c8 - 8 = c := ⟨_, rfl⟩
  obtain ⟨c20, hc20⟩ : ∃ c, c8 - 12 = c := ⟨_, rfl⟩
  obtain ⟨c4, hc4⟩ : ∃ c, cc - 4 = c := ⟨_, rfl⟩
  obtain ⟨S8, hS8⟩ : ∃ c, S - 8 = c := ⟨_, rfl⟩
  obtain ⟨S20, hS20⟩ : ∃ c, S8 - 12 = c := ⟨_, rfl⟩
  have q1 : (8 : Int) ≤ (S : Int) := by omega
  have q2 : (S : Int) ≤ (cc : Int) := by omega
  have q3 : (8 : Int) ≤ (c8 : Int) := by omega
  have q4 : (12 : Int) ≤ (c8 : Int) := by omega
  have q5 : (8 : Int) ≤ (cc : Int) := by omega
  have q6 : (12 : Int) ≤ (S8 : Int) := by omega
  have q7 : 8 ≤ S ∧ S ≤ cc ∧ 8 ≤ c8 ∧ 12 ≤ c8 ∧ 8 ≤ cc ∧ 12 ≤ S8 := by omega
  obtain ⟨q7a, q7b, q7c, q7d, q7e, q7f⟩ := q7
  have n1 : ¬ cc = 8 := by omega
  have n2 : ¬ c8 = 8 := by omega
  have n3 : ¬ cc = 4 := by omega
  have n4 : ¬ c8 = 12 := by omega
  have hin : Bs w (some ⟨b, p8, none⟩) S8 c8 (B.drop 8) := by
    have h9 := (hbD.drop 8 (by omega) p8 (Or.inr hp8.symm)).take S8 (by omega)
    rw [hc8] at h9
    have e9 : (D.drop 8).take S8 = B.drop 8 := by rw [hB.out, List.drop_take, hS8]
    rw [e9] at h9
    exact h9
  have hv8 := fun W (hW : w.grownBy W none) => rvalue_any W _ 8 _ _ ((hin.grown hW).take 8 (by omega)) (by omega)
  have hi8 := hin.drop 8 (by omega) p16 (Or.inr hp16.symm)
  rw [hc16] at hi8
  have hv4 := fun W (hW : w.grownBy W none) => rvalue_any W _ 4 _ _ ((hi8.grown hW).take 4 (by omega)) (by omega)
  have hd4 := hbD.drop 4 (by omega) p4 (Or.inr hp4.symm)
  rw [hc4] at hd4
  have hvS := fun W (hW : w.grownBy W none) => rvalue_any W _ 4 _ _ ((hd4.grown hW).take 4 (by omega)) (by omega)
  have hsm := fun W (hW : w.grownBy W none) => rsum_any W _ S8 c8 (B.drop 8) (hin.grown hW)
  have hi20 := hin.drop 12 (by omega) p20 (Or.inr hp20.symm)
  rw [hc20, hS20] at hi20
  rw [List.drop_drop] at hi8 hi20 hv4
  obtain ⟨BV, hBV⟩ : ∃ V, Hid (V = val ((B.drop 8).take 8)) := ⟨_, (rfl : val ((B.drop 8).take 8) = _)⟩
  obtain ⟨CV, hCV⟩ : ∃ V, Hid (V = cAt B) := ⟨_, (rfl : cAt B = _)⟩
  obtain ⟨X, hX⟩ : ∃ V, Hid (V = sm (B.drop 8)) := ⟨_, (rfl : sm (B.drop 8) = _)⟩
  obtain ⟨Y, hY⟩ : ∃ V, Hid (V = val ((B.drop 4).take 4)) := ⟨_, (rfl : val ((B.drop 4).take 4) = _)⟩
  have hBVl : BV < 18446744073709551616 := by rw [hBV.out]; exact val8 B 8
  have hCVl : CV < 4294967296 := by
    rw [hCV.out]
    have h3 := val_lt ((B.drop 16).take 4)
    have h9 : 256 ^ ((B.drop 16).take 4).length ≤ 256 ^ 4 := Nat.pow_le_pow_right (by omega) (by simp; omega)
    exact Nat.lt_of_lt_of_le h3 h9
  have hXl : X < 4294967296 := by rw [hX.out]; exact sm_lt _
  have hYl : Y < 4294967296 := by
    rw [hY.out]
    have h3 := val_lt ((B.drop 4).take 4)
    have h9 : 256 ^ ((B.drop 4).take 4).length ≤ 256 ^ 4 := Nat.pow_le_pow_right (by omega) (by simp; omega)
    exact Nat.lt_of_lt_of_le h3 h9
  rw [← hBV.out] at hv8
  rw [show val ((B.drop (8 + 8)).take 4) = CV from hCV.out.symm] at hv4
  rw [show val ((D.drop 4).take 4) = Y by rw [hY.out, hdt 4 4 (by omega)]] at hvS
  rw [← hX.out] at hsm
  have hdw : Hid (Whole B S ↔ Dw B) := by have := whole_dw (B := B) (by rw [hBl.out]; exact S1) (by rw [hBl.out]; exact S2); rw [hBl.out] at this; exact this
  have hEx2 : Hid (extR D = (S, 0)) := hEx
  clear hEx hd4 hi8 hdt hbD
  go_wp2_with fail
  go_region_held3 (fun _ => True) (trivial) (first
    | (go_at_call 49; have hx := ha8; refine (hv4 _ (grown_trans hg0 (grown_drew w0 none) (by simp))).mono ?_; rintro e wa ⟨rfl, hwa⟩; subst hwa)
    | (go_at_call 49; refine (hv8 _ (grown_trans hg0 (grown_drew w0 none) (by simp))).mono ?_; rintro e wa ⟨rfl, hwa⟩; subst hwa; have ha8 : True := trivial))
  have hG1 := grown_trans hg0 (grown_drew w0 none) (by simp)
  have k1 := heap_kept (grown_drew w0 none) k0 (by simp)
  clear hv8 hv4 k0 hg0
  generalize w0.drew = w1 at *
  have hwX : IntKind.u64.wrap (X : Int) = (X : Int) := by rw [wrapU64]; omega
  have hno : ∀ (hb' : ¬ Dw B), NoAt D 152 := fun hb' => ⟨by omega, Or.inr ⟨by rw [hEx2.out], rfl, by rw [hEx2.out]; show ¬ Whole (D.take S) S; rw [← hB.out]; exact fun h => hb' (hdw.out.1 h)⟩⟩
  go_wp2_with fail
  by_cases hxy : ¬ X = Y
  · have t1 : ((X : Int) != (Y : Int)) = true := by simp; omega
    have hnD := hno (fun hb' => hxy (by rw [hX.out, hY.out]; exact hb'.sum))
    go_big_quiet ((first | (go_at_call 44; exact Calls.quiet_of_same (hsm _ (grown_trans hG1 (grown_drewN w1 _ none) (by simp)))) | (go_at_call 49; exact Calls.quiet_of_same (hvS _ (grown_trans hG1 (grown_drewN w1 _ none) (by simp))))))
    have hG2 := grown_trans hG1 (grown_drewN w1 nq none) (by simp)
    have k2 := heap_kept (grown_drewN w1 nq none) k1 (by simp)
    clear hvS hsm hin hi20 k1 hG1 hno hdw
    generalize w1.drewN nq = w2 at *
    obtain ⟨y0, y1, hGf⟩ := two_set (Nat.le_of_eq hz) k2 hG2 (.int .i64 0) (.slice none 0 0)
    have d0 := cell_of (i := 0) (v := .int .i64 0) k2 rfl
    have d1 := cell_of (i := 1) (v := .slice none 0 0) k2 rfl
    have df := frozen_of k2
    go_wp2_with fail
    generalize ((w2.setCell ⟨z, 0, none⟩ (.int .i64 0)).setCell ⟨z, 1, none⟩ (.slice none 0 0)) = w9 at *
    refine bodyPost_ret (v := .tuple #[.agg #[.int .i64 0, .slice none 0 0], .int .i64 0, .int .i64 152]) (by simp [results, Try.results28, go_sem, y0, y1]) rfl ?_
    exact ⟨hGf, Or.inl ⟨152, hnD, rfl⟩⟩
  have t1 : ((X : Int) != (Y : Int)) = false := by simp; omega
  by_cases hbv : 9007199254740992 < BV
  · have t2 : decide ((9007199254740992 : Int) < (BV : Int)) = true := by simp; omega
    have hnD := hno (fun hb' => by have := hb'.base; rw [← hBV.out] at this; omega)
    go_big_quiet ((first | (go_at_call 44; exact Calls.quiet_of_same (hsm _ (grown_trans hG1 (grown_drewN w1 _ none) (by simp)))) | (go_at_call 49; exact Calls.quiet_of_same (hvS _ (grown_trans hG1 (grown_drewN w1 _ none) (by simp))))))
    have hG2 := grown_trans hG1 (grown_drewN w1 nq none) (by simp)
    have k2 := heap_kept (grown_drewN w1 nq none) k1 (by simp)
    clear hvS hsm hin hi20 k1 hG1 hno hdw
    generalize w1.drewN nq = w2 at *
    obtain ⟨y0, y1, hGf⟩ := two_set (Nat.le_of_eq hz) k2 hG2 (.int .i64 0) (.slice none 0 0)
    have d0 := cell_of (i := 0) (v := .int .i64 0) k2 rfl
    have d1 := cell_of (i := 1) (v := .slice none 0 0) k2 rfl
    have df := frozen_of k2
    go_wp2_with fail
    generalize ((w2.setCell ⟨z, 0, none⟩ (.int .i64 0)).setCell ⟨z, 1, none⟩ (.slice none 0 0)) = w9 at *
    refine bodyPost_ret (v := .tuple #[.agg #[.int .i64 0, .slice none 0 0], .int .i64 0, .int .i64 152]) (by simp [results, Try.results28, go_sem, y0, y1]) rfl ?_
    exact ⟨hGf, Or.inl ⟨152, hnD, rfl⟩⟩
  have t2 : decide ((9007199254740992 : Int) < (BV : Int)) = false := by simp; omega
  by_cases hc1 : CV < 1
  · have t3 : decide ((CV : Int) < 1) = true := by simp; omega
    have hnD := hno (fun hb' => by have := hb'.low; rw [← hCV.out] at this; omega)
    go_big_quiet ((first | (go_at_call 44; exact Calls.quiet_of_same (hsm _ (grown_trans hG1 (grown_drewN w1 _ none) (by simp)))) | (go_at_call 49; exact Calls.quiet_of_same (hvS _ (grown_trans hG1 (grown_drewN w1 _ none) (by simp))))))
    have hG2 := grown_trans hG1 (grown_drewN w1 nq none) (by simp)
    have k2 := heap_kept (grown_drewN w1 nq none) k1 (by simp)
    clear hvS hsm hin hi20 k1 hG1 hno hdw
    generalize w1.drewN nq = w2 at *
    obtain ⟨y0, y1, hGf⟩ := two_set (Nat.le_of_eq hz) k2 hG2 (.int .i64 0) (.slice none 0 0)
    have d0 := cell_of (i := 0) (v := .int .i64 0) k2 rfl
    have d1 := cell_of (i := 1) (v := .slice none 0 0) k2 rfl
    have df := frozen_of k2
    go_wp2_with fail
    generalize ((w2.setCell ⟨z, 0, none⟩ (.int .i64 0)).setCell ⟨z, 1, none⟩ (.slice none 0 0)) = w9 at *
    refine bodyPost_ret (v := .tuple #[.agg #[.int .i64 0, .slice none 0 0], .int .i64 0, .int .i64 152]) (by simp [results, Try.results28, go_sem, y0, y1]) rfl ?_
    exact ⟨hGf, Or.inl ⟨152, hnD, rfl⟩⟩
  have t3 : decide ((CV : Int) < 1) = false := by simp; omega
  by_cases hc2 : 256 < CV
  · have t4 : decide ((256 : Int) < (CV : Int)) = true := by simp; omega
    have hnD := hno (fun hb' => by have := hb'.most; rw [← hCV.out] at this; omega)
    go_big_quiet ((first | (go_at_call 44; exact Calls.quiet_of_same (hsm _ (grown_trans hG1 (grown_drewN w1 _ none) (by simp)))) | (go_at_call 49; exact Calls.quiet_of_same (hvS _ (grown_trans hG1 (grown_drewN w1 _ none) (by simp))))))
    have hG2 := grown_trans hG1 (grown_drewN w1 nq none) (by simp)
    have k2 := heap_kept (grown_drewN w1 nq none) k1 (by simp)
    clear hvS hsm hin hi20 k1 hG1 hno hdw
    generalize w1.drewN nq = w2 at *
    obtain ⟨y0, y1, hGf⟩ := two_set (Nat.le_of_eq hz) k2 hG2 (.int .i64 0) (.slice none 0 0)
    have d0 := cell_of (i := 0) (v := .int .i64 0) k2 rfl
    have d1 := cell_of (i := 1) (v := .slice none 0 0) k2 rfl
    have df := frozen_of k2
    go_wp2_with fail
    generalize ((w2.setCell ⟨z, 0, none⟩ (.int .i64 0)).setCell ⟨z, 1, none⟩ (.slice none 0 0)) = w9 at *
    refine bodyPost_ret (v := .tuple #[.agg #[.int .i64 0, .slice none 0 0], .int .i64 0, .int .i64 152]) (by simp [results, Try.results28, go_sem, y0, y1]) rfl ?_
    exact ⟨hGf, Or.inl ⟨152, hnD, rfl⟩⟩
  have t4 : decide ((256 : Int) < (CV : Int)) = false := by simp; omega
  obtain ⟨BC, hBC⟩ : ∃ x : Nat, (BV : Int) + (CV : Int) = (x : Int) := ⟨BV + CV, by omega⟩
  obtain ⟨B1, hB1⟩ : ∃ x : Nat, (BC : Int) - 1 = (x : Int) := ⟨BC - 1, by omega⟩
  have hwB : IntKind.u64.wrap (BC : Int) = (BC : Int) := by rw [wrapU64]; omega
  have hwC : IntKind.u64.wrap (B1 : Int) = (B1 : Int) := by rw [wrapU64]; omega
  by_cases hlast : 9007199254740992 < B1
  · have t5 : decide ((9007199254740992 : Int) < (B1 : Int)) = true := by simp; omega
    have hnD := hno (fun hb' => by have := hb'.last; rw [← hBV.out, ← hCV.out] at this; omega)
    go_big_quiet ((first | (go_at_call 44; exact Calls.quiet_of_same (hsm _ (grown_trans hG1 (grown_drewN w1 _ none) (by simp)))) | (go_at_call 49; exact Calls.quiet_of_same (hvS _ (grown_trans hG1 (grown_drewN w1 _ none) (by simp))))))
    have hG2 := grown_trans hG1 (grown_drewN w1 nq none) (by simp)
    have k2 := heap_kept (grown_drewN w1 nq none) k1 (by simp)
    clear hvS hsm hin hi20 k1 hG1 hno hdw
    generalize w1.drewN nq = w2 at *
    obtain ⟨y0, y1, hGf⟩ := two_set (Nat.le_of_eq hz) k2 hG2 (.int .i64 0) (.slice none 0 0)
    have d0 := cell_of (i := 0) (v := .int .i64 0) k2 rfl
    have d1 := cell_of (i := 1) (v := .slice none 0 0) k2 rfl
    have df := frozen_of k2
    go_wp2_with fail
    generalize ((w2.setCell ⟨z, 0, none⟩ (.int .i64 0)).setCell ⟨z, 1, none⟩ (.slice none 0 0)) = w9 at *
    refine bodyPost_ret (v := .tuple #[.agg #[.int .i64 0, .slice none 0 0], .int .i64 0, .int .i64 152]) (by simp [results, Try.results28, go_sem, y0, y1]) rfl ?_
    exact ⟨hGf, Or.inl ⟨152, hnD, rfl⟩⟩
  have t5 : decide ((9007199254740992 : Int) < (B1 : Int)) = false := by simp; omega
  go_big_quiet ((first | (go_at_call 44; exact Calls.quiet_of_same (hsm _ (grown_trans hG1 (grown_drewN w1 _ none) (by simp)))) | (go_at_call 49; exact Calls.quiet_of_same (hvS _ (grown_trans hG1 (grown_drewN w1 _ none) (by simp))))))
  have hG2 := grown_trans hG1 (grown_drewN w1 nq none) (by simp)
  have k2 := heap_kept (grown_drewN w1 nq none) k1 (by simp)
  clear hvS hsm k1 hG1
  generalize w1.drewN nq = w2 at *
  have hlast2 : BV + CV ≤ 9007199254740993 := by clear t1 t2 t3 t4 t5 hwX hwB hwC q1 q2 q3 q4 q5 q6 hSs; omega
  have hxy2 : X = Y := Decidable.not_not.1 hxy
  have hbv2 : BV ≤ 9007199254740992 := Nat.le_of_not_lt hbv
  have hc12 : 1 ≤ CV := Nat.le_of_not_lt hc1
  have hc22 : CV ≤ 256 := Nat.le_of_not_lt hc2
  have hS20b : B.length = S20 + 20 := by rw [hBl.out]; omega
  have hrr := rrecords_any w2 b p20 S20 c20 B (B.drop (8 + 12)) rfl (hi20.grown hG2) hS20b (by omega) CV (by omega)
  go_wp2_with fail
  refine hrr.mono ?_
  rintro e w3 ⟨hg3, ⟨hbad, rfl⟩ | ⟨hgood, ro, rc, rs, rfl, hR, hAw, hSy⟩⟩
  · have hnD := hno (fun hb' => hbad (by rw [hCV.out]; exact hb'.recs))
    have hG3 := grown_trans hG2 hg3 (by simp)
    have k3 := heap_kept hg3 k2 (by simp)
    clear hrr hin hi20 k2 hG2 hno hdw
    obtain ⟨y0, y1, hGf⟩ := two_set (Nat.le_of_eq hz) k3 hG3 (.int .i64 0) (.slice none 0 0)
    have d0 := cell_of (i := 0) (v := .int .i64 0) k3 rfl
    have d1 := cell_of (i := 1) (v := .slice none 0 0) k3 rfl
    have df := frozen_of k3
    go_wp2_with fail
    generalize ((w3.setCell ⟨z, 0, none⟩ (.int .i64 0)).setCell ⟨z, 1, none⟩ (.slice none 0 0)) = w9 at *
    refine bodyPost_ret (v := .tuple #[.agg #[.int .i64 0, .slice none 0 0], .int .i64 0, .int .i64 152]) (by simp [results, Try.results28, go_sem, y0, y1]) rfl ?_
    exact ⟨hGf, Or.inl ⟨152, hnD, rfl⟩⟩
  · have hG3 := grown_trans hG2 hg3 (by simp)
    have k3 := heap_kept hg3 k2 (by simp)
    by_cases hfin : posAt B CV = B.length
    · rw [decide_eq_true hfin]
      have hWh : Whole (D.take S) S := by
        rw [← hB.out]
        exact hdw.out.2 ⟨by rw [← hX.out, ← hY.out]; exact hxy2, by rw [← hBV.out]; exact hbv2, by rw [← hCV.out]; exact hc12, by rw [← hCV.out]; exact hc22, by rw [← hBV.out, ← hCV.out]; exact hlast2, by rw [← hCV.out]; exact hgood, by rw [← hCV.out]; exact hfin⟩
      have hbA : Hid (bAt (D.take S) = (BV : Int)) := by
        show _ = _
        rw [← hB.out]
        show wrap64 (val ((B.drop 8).take 8) : Nat) = _
        rw [← hBV.out]
        exact wrap64_small hbv2
      have hcA : Hid (cAt (D.take S) = CV) := by show _ = _; rw [← hB.out]; exact hCV.out.symm
      have hzl2 := lt_of_heap k2
      obtain ⟨y0, y1, hGf⟩ := two_set (Nat.le_of_eq hz) k3 hG3 (.int .i64 (BV : Int)) (.slice ro CV rc)
      have d0 := cell_of (i := 0) (v := .int .i64 0) k3 rfl
      have d1 := cell_of (i := 1) (v := .slice none 0 0) k3 rfl
      have df := frozen_of k3
      have hsz2 : w.heap.size ≤ w2.heap.size := hG2.size
      have u1 := setCell_grown w3 z 0 (.int .i64 (BV : Int))
      have u2 := setCell_grown (w3.setCell ⟨z, 0, none⟩ (.int .i64 (BV : Int))) z 1 (.slice ro CV rc)
      have u := grown_trans u1 u2 (fun k hk => Or.inl hk)
      have hRf := (hR.kept u (by
        cases hbk : blk ro with
        | none => exact Or.inl rfl
        | some k => right; have := (hR.from_base k hbk).1; intro e; simp at e; omega)).rebase hsz2
      have hAf : ∀ r ∈ rs, Aw ((w3.setCell ⟨z, 0, none⟩ (.int .i64 (BV : Int))).setCell ⟨z, 1, none⟩ (.slice ro CV rc)) w.heap.size (blk ro) r := fun r hr => ((hAw r hr).other u hzl2).rebase hsz2
      clear hrr hin hi20 k2 hno hdw hR hAw u u1 u2 k3 hG3 hG2
      clear t1 t2 t3 t4 t5 hwX hwB hwC q1 q2 q3 q4 q5 q6 q7a q7b q7c q7d q7e q7f n1 n2 n3 n4 hBC hB1 e1 e2 f0 f1 g1 g2 g3 i0 i1 i2 j1 j2 hci hcc hc8 hc16 hc20 hc4 hS8 hS20 hp8 hp16 hp20 hp4 hmi hlen hroom hb hlast hxy hbv hc1 hc2 hlast2 hmc hxy2 hS20b
      go_wp2_with fail
      generalize ((w3.setCell ⟨z, 0, none⟩ (.int .i64 (BV : Int))).setCell ⟨z, 1, none⟩ (.slice ro CV rc)) = w9 at *
      refine bodyPost_ret (v := .tuple #[.agg #[.int .i64 (BV : Int), .slice ro CV rc], .int .i64 S, .int .i64 0]) (by simp [results, Try.results28, go_sem, y0, y1]) rfl ?_
      exact ⟨hGf, Or.inr ⟨S, ro, rc, rs, hEx2.out, hWh, by rw [hbA.out, hcA.out], by rw [hcA.out]; exact hRf, hAf, by rw [← hB.out]; exact hSy⟩⟩
    · rw [decide_eq_false hfin]
      have hnD := hno (fun hb' => hfin (by have := hb'.fin; rw [← hCV.out] at this; exact this))
      clear hrr hin hi20 k2 hG2 hno hdw hR hAw hSy
      obtain ⟨y0, y1, hGf⟩ := two_set (Nat.le_of_eq hz) k3 hG3 (.int .i64 0) (.slice none 0 0)
      have d0 := cell_of (i := 0) (v := .int .i64 0) k3 rfl
      have d1 := cell_of (i := 1) (v := .slice none 0 0) k3 rfl
      have df := frozen_of k3
      go_wp2_with fail
      generalize ((w3.setCell ⟨z, 0, none⟩ (.int .i64 0)).setCell ⟨z, 1, none⟩ (.slice none 0 0)) = w9 at *
      refine bodyPost_ret (v := .tuple #[.agg #[.int .i64 0, .slice none 0 0], .int .i64 0, .int .i64 152]) (by simp [results, Try.results28, go_sem, y0, y1]) rfl ?_
      exact ⟨hGf, Or.inl ⟨152, hnD, rfl⟩⟩
end Go.Proofs.Ytlfgikhjcimppaa

/-
  Batches one behind the other; the document's Walk.
-/
namespace Go.Proofs.Ytlfgikhjcimppaa
open Go.RowKit
set_option linter.unusedVariables false

/-- From a place on so many batches stand one behind the other, with so many records, of so many bytes. -/
inductive Ch (L : List UInt8) (i : Nat) : Nat → Nat → Nat → Prop
  | nil : Ch L i 0 0 0
  | snoc {k R Z S : Nat} : Ch L i k R Z → extR (L.drop (i + Z)) = (S, 0) → Whole ((L.drop (i + Z)).take S) S → Ch L i (k + 1) (R + cAt ((L.drop (i + Z)).take S)) (Z + S)

theorem noat_one {D : List UInt8} {C C' : Int} (h : NoAt D C) (h' : NoAt D C') : C = C' := by
  obtain ⟨a, b⟩ := h
  obtain ⟨a', b'⟩ := h'
  rcases b with b | ⟨b, c, _⟩ <;> rcases b' with b' | ⟨b', c', _⟩
  · rw [← b, ← b']
  · rw [b] at b'; exact (a b').elim
  · rw [b'] at b; exact (a' b).elim
  · rw [c, c']
theorem noat_not {D : List UInt8} {C : Int} {S : Nat} (h : NoAt D C) (hE : extR D = (S, 0)) (hW : Whole (D.take S) S) : False := by
  obtain ⟨a, b⟩ := h
  rw [hE] at b
  rcases b with b | ⟨_, _, b⟩
  · exact a b.symm
  · exact b hW

/-- The one run is a beginning of the other. -/
theorem ch_less {L : List UInt8} {i : Nat} : ∀ {k' R' Z' : Nat}, Ch L i k' R' Z' → ∀ {k R Z : Nat}, Ch L i k R Z → k ≤ k' → (k = k' → R = R' ∧ Z = Z') ∧ (k < k' → ∃ S, extR (L.drop (i + Z)) = (S, 0) ∧ Whole ((L.drop (i + Z)).take S) S) := by
  intro k' R' Z' h'
  induction h' with
  | nil =>
    intro k R Z h hk
    obtain rfl : k = 0 := by omega
    cases h
    exact ⟨fun _ => ⟨rfl, rfl⟩, fun h => by omega⟩
  | @snoc k' R' Z' S' c e w ih =>
    intro k R Z h hk
    by_cases hkk : k ≤ k'
    · obtain ⟨i1, i2⟩ := ih h hkk
      refine ⟨fun e => by omega, fun _ => ?_⟩
      by_cases hkq : k = k'
      · obtain ⟨rfl, rfl⟩ := i1 hkq
        exact ⟨S', e, w⟩
      · exact i2 (by omega)
    · obtain rfl : k = k' + 1 := by omega
      refine ⟨fun _ => ?_, fun h => by omega⟩
      cases h with
      | @snoc k R Z S c2 e2 w2 =>
        obtain ⟨i1, _⟩ := ih c2 (Nat.le_refl _)
        obtain ⟨rfl, rfl⟩ := i1 rfl
        rw [e] at e2
        cases e2
        exact ⟨rfl, rfl⟩

theorem ch_one {L : List UInt8} {i k R Z k' R' Z' : Nat} {C C' : Int} (h : Ch L i k R Z) (hN : NoAt (L.drop (i + Z)) C) (h' : Ch L i k' R' Z') (hN' : NoAt (L.drop (i + Z')) C') : k = k' ∧ R = R' ∧ Z = Z' ∧ C = C' := by
  rcases Nat.lt_trichotomy k k' with hk | hk | hk
  · obtain ⟨S, e, w⟩ := (ch_less h' h (by omega)).2 hk
    exact (noat_not hN e w).elim
  · obtain ⟨rfl, rfl⟩ := (ch_less h' h (by omega)).1 hk
    exact ⟨hk, rfl, rfl, noat_one hN hN'⟩
  · obtain ⟨S, e, w⟩ := (ch_less h h' (by omega)).2 hk
    exact (noat_not hN' e w).elim

theorem whole_c {B : List UInt8} {S : Nat} (h : Whole B S) : 20 + 12 * cAt B ≤ S := by
  have h1 := pos_ge B (cAt B)
  rw [h.fin] at h1
  exact h1

theorem ch_le {L : List UInt8} {i k R Z : Nat} (h : Ch L i k R Z) : k ≤ Z ∧ R ≤ Z := by
  induction h with
  | nil => omega
  | @snoc k R Z S c e w ih =>
    have := whole_c w
    have := w.low
    omega

theorem heap_set {W : World} {g : Nat} {cs : Array Value} {t : TypeId} (h : W.heap[g]? = some (.cells cs t)) (i : Nat) (v : Value) : (W.setCell ⟨g, i, none⟩ v).heap[g]? = some (.cells (cs.setIfInBounds i v) t) := by
  rw [setCell_eq_setRow W g i cs t (0, 0) v h]
  exact setRow_heap W g _ _ t _ h
theorem heap_oth {W : World} {g q : Nat} {x : Obj} (h : W.heap[q]? = some x) (i : Nat) (v : Value) (hne : q ≠ g) : (W.setCell ⟨g, i, none⟩ v).heap[q]? = some x := heap_kept (setCell_grown W g i v) h (by simpa using hne)

theorem rread_bp (w : World) (ao : Option Addr) (n cap i : Nat) (L : List UInt8) (h : Bp w ao n cap L) (hi : i ≤ n) :
    Calls Try.prog 28 #[.slice ao n cap, .int .i64 i] w fun e w' => w.grownBy w' none ∧ ((∃ C, NoAt (L.drop i) C ∧ e = .returned (.tuple #[.agg #[.int .i64 0, .slice none 0 0], .int .i64 0, .int .i64 C])) ∨
      (∃ S ro rc rs, extR (L.drop i) = (S, 0) ∧ Whole ((L.drop i).take S) S ∧ e = .returned (.tuple #[.agg #[.int .i64 (bAt ((L.drop i).take S)), .slice ro (cAt ((L.drop i).take S)) rc], .int .i64 S, .int .i64 0]) ∧ Rw w' w.heap.size ro (cAt ((L.drop i).take S)) rc rs ∧ (∀ r ∈ rs, Aw w' w.heap.size (blk ro) r) ∧ (∀ j d, (ds rs)[j]? = some d → Says ((L.drop i).take S) (posAt ((L.drop i).take S) j) d))) := by
  cases ao with
  | none =>
    have h1 := h.bs.nil rfl
    have h2 := h.bs.room
    have h3 := h.bs.len
    obtain rfl : n = 0 := by omega
    subst h1
    obtain rfl : i = 0 := by omega
    obtain rfl : L = [] := List.eq_nil_of_length_eq_zero h3
    refine (rread_nil w).mono ?_
    rintro e w' ⟨rfl, hg⟩
    exact ⟨hg, Or.inl ⟨150, ⟨by omega, Or.inl rfl⟩, rfl⟩⟩
  | some a =>
    obtain ⟨b, o, rfl⟩ := h.at_ a rfl
    exact rread_any w b o n cap i L h.bs hi h.top h.cap

/-- How far a walk has come. -/
def szOf (W : World) (z : Nat) : Nat := match W.cell? ⟨z, 2, none⟩ with | some v => (intOf v).toNat | none => 0

set_option maxRecDepth 100000 in
set_option maxHeartbeats 4000000 in
theorem rwalk_any (w : World) (ao : Option Addr) (n cap i : Nat) (L : List UInt8) (hb : Bp w ao n cap L) (hi : i ≤ n) :
    Calls Try.prog 31 #[.slice ao n cap, .int .i64 i] w fun e w' => w.grownBy w' none ∧ ∃ (k R Z : Nat) (C : Int), Ch L i k R Z ∧ NoAt (L.drop (i + Z)) C ∧ i + Z ≤ n ∧ e = .returned (.tuple #[.agg #[.int .i64 k, .int .i64 R, .int .i64 Z, .int .i64 C], .int .i64 0]) := by
  have e1 : decide ((i : Int) < 0) = false := by simp
  have e2 : decide ((n : Int) < (i : Int)) = false := by simp; omega
  have e3 : decide (n < i) = false := by simp; omega
  have hlen := hb.bs.len
  have hn := hb.top
  have g1 := alloc_grown w (.cells #[.int .i64 0, .int .i64 0, .int .i64 0, .int .i64 0] 53)
  have k1 := heap_alloc_new w (.cells #[.int .i64 0, .int .i64 0, .int .i64 0, .int .i64 0] 53)
  have g2 := alloc_grown (w.alloc (.cells #[.int .i64 0, .int .i64 0, .int .i64 0, .int .i64 0] 53)) (.cells #[.int .i64 0, .int .i64 0, .int .i64 0, .int .i64 0] 53)
  have k2 := heap_alloc_new (w.alloc (.cells #[.int .i64 0, .int .i64 0, .int .i64 0, .int .i64 0] 53)) (.cells #[.int .i64 0, .int .i64 0, .int .i64 0, .int .i64 0] 53)
  have hG0 := grown_trans g1 g2 (by simp)
  have k1' := heap_kept g2 k1 (by simp)
  have hs2 : (w.alloc (.cells #[.int .i64 0, .int .i64 0, .int .i64 0, .int .i64 0] 53)).heap.size = w.heap.size + 1 := by simp
  rw [hs2] at k2
  clear g1 g2 k1 hs2
  obtain ⟨z, hz⟩ : ∃ z, w.heap.size = z := ⟨_, rfl⟩
  rw [hz] at k1' k2
  have d1 := cell_of (i := 2) (v := .int .i64 0) k2 rfl
  go_enter Try.func31, Try.ntmps31
  go_wp2_with fail
  clear d1
  generalize (w.alloc (.cells #[.int .i64 0, .int .i64 0, .int .i64 0, .int .i64 0] 53)).alloc (.cells #[.int .i64 0, .int .i64 0, .int .i64 0, .int .i64 0] 53) = w0 at *
  go_loopw [7, 8, 9] (fun _ _ _ wr => ∃ (k R Z : Nat), Ch L i k R Z ∧ i + Z ≤ n ∧ wr.heap[z + 1]? = some (.cells #[.int .i64 k, .int .i64 R, .int .i64 Z, .int .i64 0] 53) ∧ wr.heap[z]? = some (.cells #[.int .i64 0, .int .i64 0, .int .i64 0, .int .i64 0] 53) ∧ w.grownBy wr none) (fun _ _ _ wr => n - szOf wr (z + 1))
  case atStart => exact ⟨0, 0, 0, Ch.nil, by omega, k2, k1', hG0⟩
  case round =>
    clear k2 k1' hG0
    obtain ⟨k, R, Z, hch, hZ, hs, hr, hG⟩ := hrel
    obtain ⟨hk9, hR9⟩ := ch_le hch
    have x0 := cell_of (i := 0) (v := .int .i64 (k : Int)) hs rfl
    have x1 := cell_of (i := 1) (v := .int .i64 (R : Int)) hs rfl
    have x2 := cell_of (i := 2) (v := .int .i64 (Z : Int)) hs rfl
    have x3 := cell_of (i := 3) (v := .int .i64 (0 : Int)) hs rfl
    have xf := frozen_of hs
    obtain ⟨T, hT⟩ : ∃ T, Hid (T = i + Z) := ⟨i + Z, (rfl : _ = _)⟩
    have hTs : (i : Int) + (Z : Int) = (T : Int) := by have := hT.out; omega
    have hRd := rread_bp wr ao n cap T L (hb.grown hG) (by have := hT.out; omega)
    have hzs := lt_of_heap hs
    go_wp2_with fail
    refine hRd.mono ?_
    clear hRd x0 x1 x2 x3 xf
    rintro e w1 ⟨hg1, ⟨C, hNo, rfl⟩ | ⟨S, ro, rc, rs, hE, hW, rfl, hRw, hAw, hSy⟩⟩
    · have hG1 := grown_trans hG hg1 (by simp)
      have hs1 := heap_kept hg1 hs (by simp)
      have hr1 := heap_kept hg1 hr (by simp)
      have ga := alloc_grown w1 (.cells #[.int .i64 0, .slice none 0 0] 35)
      have hG2 := grown_trans hG1 ga (by simp)
      have hs2 := heap_kept ga hs1 (by simp)
      have hr2 := heap_kept ga hr1 (by simp)
      have hC : (C != 0) = true := by simpa using hNo.1
      have y0 := cell_of (i := 0) (v := .int .i64 (k : Int)) hs1 rfl
      have y1 := cell_of (i := 1) (v := .int .i64 (R : Int)) hs1 rfl
      have y2 := cell_of (i := 2) (v := .int .i64 (Z : Int)) hs1 rfl
      have y3 := cell_of (i := 3) (v := .int .i64 (0 : Int)) hs1 rfl
      have yf := frozen_of hs1
      have u0 := cell_of (i := 0) (v := .int .i64 (0 : Int)) hr1 rfl
      have u1 := cell_of (i := 1) (v := .int .i64 (0 : Int)) hr1 rfl
      have u2 := cell_of (i := 2) (v := .int .i64 (0 : Int)) hr1 rfl
      have u3 := cell_of (i := 3) (v := .int .i64 (0 : Int)) hr1 rfl
      have uf := frozen_of hr1
      have l1 := lt_of_heap hs1
      have l2 := lt_of_heap hr1
      have ne1 : ¬ z + 1 = w1.heap.size := by omega
      have ne2 : ¬ w1.heap.size = z + 1 := by omega
      have ne3 : ¬ z = w1.heap.size := by omega
      have ne4 : ¬ w1.heap.size = z := by omega
      clear hg1 hs hr hG ga
      go_wp2_with fail
      have p1 : (((((w1.setCell ⟨z + 1, 3, none⟩ (.int .i64 C)).setCell ⟨z, 0, none⟩ (.int .i64 (k : Int))).setCell ⟨z, 1, none⟩ (.int .i64 (R : Int))).setCell ⟨z, 2, none⟩ (.int .i64 (Z : Int))).setCell ⟨z, 3, none⟩ (.int .i64 C)).heap[z]? = some (.cells #[.int .i64 (k : Int), .int .i64 (R : Int), .int .i64 (Z : Int), .int .i64 C] 53) := heap_set (heap_set (heap_set (heap_set (heap_oth hr1 3 _ (by omega)) 0 _) 1 _) 2 _) 3 _
      have p2 := heap_kept (alloc_grown (((((w1.setCell ⟨z + 1, 3, none⟩ (.int .i64 C)).setCell ⟨z, 0, none⟩ (.int .i64 (k : Int))).setCell ⟨z, 1, none⟩ (.int .i64 (R : Int))).setCell ⟨z, 2, none⟩ (.int .i64 (Z : Int))).setCell ⟨z, 3, none⟩ (.int .i64 C)) (.cells #[.int .i64 0, .slice none 0 0] 35)) p1 (by simp)
      have up : ∀ {A B : World} {q : Nat}, w.grownBy A none → A.grownBy B (some q) → z ≤ q → w.grownBy B none := fun h1 h2 h3 => grown_trans h1 h2 (fun k hk => Or.inr (by cases hk; omega))
      have hGf := grown_trans (up (up (up (up (up hG1 (setCell_grown _ (z + 1) 3 _) (by omega)) (setCell_grown _ z 0 _) (Nat.le_refl _)) (setCell_grown _ z 1 _) (Nat.le_refl _)) (setCell_grown _ z 2 _) (Nat.le_refl _)) (setCell_grown _ z 3 _) (Nat.le_refl _)) (alloc_grown (((((w1.setCell ⟨z + 1, 3, none⟩ (.int .i64 C)).setCell ⟨z, 0, none⟩ (.int .i64 (k : Int))).setCell ⟨z, 1, none⟩ (.int .i64 (R : Int))).setCell ⟨z, 2, none⟩ (.int .i64 (Z : Int))).setCell ⟨z, 3, none⟩ (.int .i64 C)) (.cells #[.int .i64 0, .slice none 0 0] 35)) (by simp)
      clear y0 y1 y2 y3 yf u0 u1 u2 u3 uf p1
      generalize (((((w1.setCell ⟨z + 1, 3, none⟩ (.int .i64 C)).setCell ⟨z, 0, none⟩ (.int .i64 (k : Int))).setCell ⟨z, 1, none⟩ (.int .i64 (R : Int))).setCell ⟨z, 2, none⟩ (.int .i64 (Z : Int))).setCell ⟨z, 3, none⟩ (.int .i64 C)).alloc (.cells #[.int .i64 0, .slice none 0 0] 35) = w9 at *
      have v0 := cell_of (i := 0) (v := .int .i64 (k : Int)) p2 rfl
      have v1 := cell_of (i := 1) (v := .int .i64 (R : Int)) p2 rfl
      have v2 := cell_of (i := 2) (v := .int .i64 (Z : Int)) p2 rfl
      have v3 := cell_of (i := 3) (v := .int .i64 C) p2 rfl
      refine bodyPost_ret (v := .tuple #[.agg #[.int .i64 (k : Int), .int .i64 (R : Int), .int .i64 (Z : Int), .int .i64 C], .int .i64 0]) (by simp [results, Try.results31, go_sem, v0, v1, v2, v3]) rfl ?_
      exact ⟨hGf, k, R, Z, C, hch, by rw [← hT.out]; exact hNo, hZ, rfl⟩
    · have hG1 := grown_trans hG hg1 (by simp)
      have hs1 := heap_kept hg1 hs (by simp)
      have hr1 := heap_kept hg1 hr (by simp)
      obtain ⟨s1, s2, s3, -⟩ := extR_ok hE
      have hm0 : Hid (szOf wr (z + 1) = Z) := by show _ = _; unfold szOf; rw [cell_of (i := 2) (v := .int .i64 (Z : Int)) hs rfl]; simp [intOf]
      have hcc := whole_c hW
      have hch2 : Ch L i (k + 1) (R + cAt ((L.drop (i + Z)).take S)) (Z + S) := Ch.snoc hch (by rw [← hT.out]; exact hE) (by rw [← hT.out]; exact hW)
      rw [← hT.out] at hch2
      have hZ2 : i + (Z + S) ≤ n := by rw [List.length_drop, hlen] at s3; have := hT.out; omega
      generalize bAt ((L.drop T).take S) = BA at *
      generalize cAt ((L.drop T).take S) = CA at *
      have y0 := cell_of (i := 0) (v := .int .i64 (k : Int)) hs1 rfl
      have y1 := cell_of (i := 1) (v := .int .i64 (R : Int)) hs1 rfl
      have y2 := cell_of (i := 2) (v := .int .i64 (Z : Int)) hs1 rfl
      have y3 := cell_of (i := 3) (v := .int .i64 (0 : Int)) hs1 rfl
      have yf := frozen_of hs1
      have l1 := lt_of_heap hs1
      have l2 := lt_of_heap hr1
      have ne1 : ¬ z + 1 = w1.heap.size := by omega
      have ne2 : ¬ w1.heap.size = z + 1 := by omega
      have up : ∀ {A B : World} {q : Nat}, w.grownBy A none → A.grownBy B (some q) → z ≤ q → w.grownBy B none := fun h1 h2 h3 => grown_trans h1 h2 (fun k hk => Or.inr (by cases hk; omega))
      have ga := alloc_grown (((w1.setCell ⟨z + 1, 0, none⟩ (.int .i64 ((k : Int) + 1))).setCell ⟨z + 1, 1, none⟩ (.int .i64 ((R : Int) + (CA : Int)))).setCell ⟨z + 1, 2, none⟩ (.int .i64 ((Z : Int) + (S : Int)))) (.cells #[.int .i64 BA, .slice ro CA rc] 35)
      have p1 : (((w1.setCell ⟨z + 1, 0, none⟩ (.int .i64 ((k : Int) + 1))).setCell ⟨z + 1, 1, none⟩ (.int .i64 ((R : Int) + (CA : Int)))).setCell ⟨z + 1, 2, none⟩ (.int .i64 ((Z : Int) + (S : Int)))).heap[z + 1]? = some (.cells #[.int .i64 ((k : Int) + 1), .int .i64 ((R : Int) + (CA : Int)), .int .i64 ((Z : Int) + (S : Int)), .int .i64 0] 53) := heap_set (heap_set (heap_set hs1 0 _) 1 _) 2 _
      have p2 : (((w1.setCell ⟨z + 1, 0, none⟩ (.int .i64 ((k : Int) + 1))).setCell ⟨z + 1, 1, none⟩ (.int .i64 ((R : Int) + (CA : Int)))).setCell ⟨z + 1, 2, none⟩ (.int .i64 ((Z : Int) + (S : Int)))).heap[z]? = some (.cells #[.int .i64 0, .int .i64 0, .int .i64 0, .int .i64 0] 53) := heap_oth (heap_oth (heap_oth hr1 0 _ (by omega)) 1 _ (by omega)) 2 _ (by omega)
      have q1 := heap_kept ga p1 (by simp)
      have q2 := heap_kept ga p2 (by simp)
      have hGf := grown_trans (up (up (up hG1 (setCell_grown _ (z + 1) 0 _) (by omega)) (setCell_grown _ (z + 1) 1 _) (by omega)) (setCell_grown _ (z + 1) 2 _) (by omega)) ga (by simp)
      clear hg1 hs hr hG hE hW hRw hAw hSy ga p1 p2 up
      go_wp2_with fail
      go_roundw
      case rel => exact ⟨k + 1, R + CA, Z + S, hch2, hZ2, by rw [show ((k + 1 : Nat) : Int) = (k : Int) + 1 by omega, show ((R + CA : Nat) : Int) = (R : Int) + (CA : Int) by omega, show ((Z + S : Nat) : Int) = (Z : Int) + (S : Int) by omega]; exact q1, q2, hGf⟩
      case measure =>
        rw [hm0.out]
        unfold szOf
        rw [cell_of (i := 2) (v := .int .i64 ((Z : Int) + (S : Int))) q1 rfl]
        simp [intOf]
        omega
end Go.Proofs.Ytlfgikhjcimppaa

/-
  Look; and what is told of a place that is none.
-/
namespace Go.Proofs.Ytlfgikhjcimppaa
open Go.RowKit
set_option linter.unusedVariables false

theorem find_bad (w : World) (ao : Option Addr) (n cap : Nat) (at' : Int) (h : plcB n at' = false) :
    Calls Try.prog 47 #[.slice ao n cap, .int .i64 at'] w fun e w' => e = .returned (.tuple #[.agg #[.int .i64 0, .slice none 0 0, .int .i64 0], .int .i64 4]) ∧ w.grownBy w' none :=
  find_ext w ao n cap at' 0 4 (fun W _ => (extent_not W ao n cap at' h).mono (by rintro e w' ⟨rfl, rfl⟩; exact ⟨rfl, grown_refl _ _⟩)) (by omega)

theorem read_bad (w : World) (ao : Option Addr) (n cap : Nat) (at' : Int) (h : plcB n at' = false) :
    Calls Try.prog 27 #[.slice ao n cap, .int .i64 at'] w fun e w' => e = .returned (.tuple #[.agg #[.int .i64 0, .slice none 0 0], .int .i64 0, .int .i64 4]) ∧ w.grownBy w' none :=
  read_not w ao n cap at' 4 (fun W _ => find_bad W ao n cap at' h) (by omega)

set_option maxRecDepth 100000 in
set_option maxHeartbeats 2000000 in
theorem look_not (w : World) (ao : Option Addr) (n cap : Nat) (at' C : Int) (hf : Calls Try.prog 47 #[.slice ao n cap, .int .i64 at'] w fun e w' => e = .returned (.tuple #[.agg #[.int .i64 0, .slice none 0 0, .int .i64 0], .int .i64 C]) ∧ w.grownBy w' none) :
    Calls Try.prog 29 #[.slice ao n cap, .int .i64 at'] w fun e w' => e = .returned (.tuple #[.int .i64 0, .int .i64 0, .int .i64 0, .int .i64 C]) ∧ w.grownBy w' none := by
  go_enter Try.func29, Try.ntmps29
  go_wp2_with fail
  refine hf.mono ?_
  rintro e w1 ⟨rfl, hg1⟩
  have ga := alloc_grown w1 (.cells #[.int .i64 0, .slice none 0 0, .int .i64 0] 85)
  have k3 := heap_alloc_new w1 (.cells #[.int .i64 0, .slice none 0 0, .int .i64 0] 85)
  have c0 := cell_of (i := 0) (v := .int .i64 0) k3 rfl
  have c1 := cell_of (i := 1) (v := .slice none 0 0) k3 rfl
  have c2 := cell_of (i := 2) (v := .int .i64 0) k3 rfl
  have hG2 := grown_trans hg1 ga (by simp)
  go_wp2_with fail
  generalize w1.alloc (.cells #[.int .i64 0, .slice none 0 0, .int .i64 0] 85) = w2 at *
  generalize w1.heap.size = z at *
  go_region_held3 (fun w' => w'.cell? ⟨z, 0, none⟩ = some (.int .i64 0) ∧ w'.cell? ⟨z, 1, none⟩ = some (.slice none 0 0) ∧ w'.cell? ⟨z, 2, none⟩ = some (.int .i64 0)) (first | exact ⟨c0, c1, c2⟩ | go_keep) (fail)
  have hG3 := grown_trans hG2 (grown_drew w2 none) (by simp)
  clear c0 c1 c2 k3 ga hG2
  generalize w2.drew = w3 at *
  go_wp2_with fail
  refine bodyPost_ret (v := .tuple #[.int .i64 0, .int .i64 0, .int .i64 0, .int .i64 C]) (by simp [results, Try.results29, go_sem]) rfl ?_
  exact ⟨rfl, hG3⟩

set_option maxRecDepth 100000 in
set_option maxHeartbeats 2000000 in
theorem look_yes (w : World) (b o n cap i S : Nat) (L : List UInt8) (hb : Bs w (some ⟨b, o, none⟩) n cap L) (hi : i ≤ n) (hn : n ≤ 1048576) (hcap : cap ≤ 9223372036854775807) (hE : extR (L.drop i) = (S, 0)) (hiS : i + S ≤ n) (hW : Whole ((L.drop i).take S) S) :
    Calls Try.prog 29 #[.slice (some ⟨b, o, none⟩) n cap, .int .i64 i] w fun e w' => e = .returned (.tuple #[.int .i64 (bAt ((L.drop i).take S)), .int .i64 (cAt ((L.drop i).take S)), .int .i64 S, .int .i64 0]) ∧ w.grownBy w' none := by
  have hfd := find_yes w b o n cap i S L hb hi hn hcap hE hiS hW
  generalize bAt ((L.drop i).take S) = BA at *
  generalize cAt ((L.drop i).take S) = CA at *
  go_enter Try.func29, Try.ntmps29
  go_wp2_with fail
  refine hfd.mono ?_
  rintro e w1 ⟨base, ro, rc, rs, -, rfl, -, -, hg1⟩
  have ga := alloc_grown w1 (.cells #[.int .i64 BA, .slice ro CA rc, .int .i64 (S : Int)] 85)
  have k3 := heap_alloc_new w1 (.cells #[.int .i64 BA, .slice ro CA rc, .int .i64 (S : Int)] 85)
  have c0 := cell_of (i := 0) (v := .int .i64 BA) k3 rfl
  have c1 := cell_of (i := 1) (v := .slice ro CA rc) k3 rfl
  have c2 := cell_of (i := 2) (v := .int .i64 (S : Int)) k3 rfl
  have hG2 := grown_trans hg1 ga (by simp)
  go_wp2_with fail
  generalize w1.alloc (.cells #[.int .i64 BA, .slice ro CA rc, .int .i64 (S : Int)] 85) = w2 at *
  generalize w1.heap.size = z at *
  go_region_held3 (fun w' => w'.cell? ⟨z, 0, none⟩ = some (.int .i64 BA) ∧ w'.cell? ⟨z, 1, none⟩ = some (.slice ro CA rc) ∧ w'.cell? ⟨z, 2, none⟩ = some (.int .i64 (S : Int))) (first | exact ⟨c0, c1, c2⟩ | go_keep) (fail)
  have hG3 := grown_trans hG2 (grown_drew w2 none) (by simp)
  clear c0 c1 c2 k3 ga hG2
  generalize w2.drew = w3 at *
  go_wp2_with fail
  refine bodyPost_ret (v := .tuple #[.int .i64 BA, .int .i64 (CA : Int), .int .i64 (S : Int), .int .i64 0]) (by simp [results, Try.results29, go_sem]) rfl ?_
  exact ⟨rfl, hG3⟩

theorem look_bad (w : World) (ao : Option Addr) (n cap : Nat) (at' : Int) (h : plcB n at' = false) :
    Calls Try.prog 29 #[.slice ao n cap, .int .i64 at'] w fun e w' => e = .returned (.tuple #[.int .i64 0, .int .i64 0, .int .i64 0, .int .i64 4]) ∧ w.grownBy w' none := look_not w ao n cap at' 4 (find_bad w ao n cap at' h)
theorem look_no (w : World) (ao : Option Addr) (n cap i : Nat) (L : List UInt8) (C : Int) (h : Bp w ao n cap L) (hi : i ≤ n) (hN : NoAt (L.drop i) C) :
    Calls Try.prog 29 #[.slice ao n cap, .int .i64 i] w fun e w' => e = .returned (.tuple #[.int .i64 0, .int .i64 0, .int .i64 0, .int .i64 C]) ∧ w.grownBy w' none := look_not w ao n cap i C (find_no w ao n cap i L C h hi hN)
end Go.Proofs.Ytlfgikhjcimppaa
