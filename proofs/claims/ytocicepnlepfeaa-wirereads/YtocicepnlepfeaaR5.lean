/-
  One call of a script on both readers: words, strings, nothing.
-/
import Derived.Test.YtocicepnlepfeaaR4
import Derived.Test.YtocicepnlepfeaaW15
import Derived.Test.YtocicepnlepfeaaW10
namespace Go.Proofs.Ytocicepnlepfeaa
open Go.RowKit
set_option linter.unusedVariables false

/-- One ask lies in block bb. -/
structure Bx (w : World) (bb : Nat) (K N M : Int) : Prop where
  c0 : w.cell? ⟨bb, 0, none⟩ = some (.int .i64 K)
  c1 : w.cell? ⟨bb, 1, none⟩ = some (.int .i64 N)
  c2 : w.cell? ⟨bb, 2, none⟩ = some (.int .i64 M)

theorem Bx.lt {w : World} {bb : Nat} {K N M : Int} (h : Bx w bb K N M) : bb < w.heap.size := World.block_lt_of_cell? w _ h.c0
theorem Bx.kept {w w' : World} {bb : Nat} {K N M : Int} {row : Option Nat} (h : Bx w bb K N M) (hg : w.grownBy w' row) (hb : some bb ≠ row) : Bx w' bb K N M := by
  have hblk := hg.block bb h.lt hb
  refine ⟨?_, ?_, ?_⟩ <;> rw [World.cell?_of_block (w := w) hblk]
  · exact h.c0
  · exact h.c1
  · exact h.c2

theorem Bx.laid (w : World) (K N M : Int) (e : TypeId) : Bx (w.alloc (.cells #[.int .i64 K, .int .i64 N, .int .i64 M] e)) w.heap.size K N M := by
  refine ⟨?_, ?_, ?_⟩ <;> simp [World.cell?_alloc_new] <;> rfl

/-- What ask answers. -/
def AskOk (w w' : World) (b g rb : Nat) (ao : Option Addr) (n cap : Nat) (L : List UInt8) (e : Ending) : Prop :=
  e = .returned (.bool true) ∧ (∃ o' cp' at2, Both w' b g o' cp' rb ao n cap L at2) ∧ Gs (Two b rb) w w'

set_option maxRecDepth 100000 in
set_option maxHeartbeats 1000000 in
theorem ask_words (w : World) (b g o cp rb : Nat) (ao : Option Addr) (n cap : Nat) (L : List UInt8) (at' : Nat) (h : Both w b g o cp rb ao n cap L at') (K N M : Int) (hK : K = 0 ∨ K = 1 ∨ K = 2 ∨ K = 3 ∨ K = 4 ∨ K = 5) :
    Calls Try.prog 31 #[.pointer (some ⟨b, 0, none⟩), .pointer (some ⟨rb, 0, none⟩), .agg #[.int .i64 K, .int .i64 N, .int .i64 M]] w fun e w' => AskOk w w' b g rb ao n cap L e := by
  have hga := World.grownBy_alloc w (.cells #[.int .i64 K, .int .i64 N, .int .i64 M] 59) none
  have hwd := words_any _ b g o cp rb ao n cap L at' (h.grown hga) K hK
  rcases hK with rfl | rfl | rfl | rfl | rfl | rfl
  all_goals
    go_enter Try.func31, Try.ntmps31
    go_wp2_with fail
    refine hwd.mono ?_
    rintro e w1 ⟨rfl, hb, hg⟩
    clear hwd
    go_wp2
    go_ret
    exact ⟨rfl, hb, (Gs.of hga (by simp)).trans hg⟩

set_option maxRecDepth 100000 in
set_option maxHeartbeats 1000000 in
theorem ask_none (w : World) (b g o cp rb : Nat) (ao : Option Addr) (n cap : Nat) (L : List UInt8) (at' : Nat) (h : Both w b g o cp rb ao n cap L at') (K N M : Int) (hK : K < 0 ∨ 9 < K) :
    Calls Try.prog 31 #[.pointer (some ⟨b, 0, none⟩), .pointer (some ⟨rb, 0, none⟩), .agg #[.int .i64 K, .int .i64 N, .int .i64 M]] w fun e w' => AskOk w w' b g rb ao n cap L e := by
  have hga := World.grownBy_alloc w (.cells #[.int .i64 K, .int .i64 N, .int .i64 M] 59) none
  have h0 : K ≠ 0 := by omega
  have h1 : K ≠ 1 := by omega
  have h2 : K ≠ 2 := by omega
  have h3 : K ≠ 3 := by omega
  have h4 : K ≠ 4 := by omega
  have h5 : K ≠ 5 := by omega
  have h6 : K ≠ 6 := by omega
  have h7 : K ≠ 7 := by omega
  have h8 : K ≠ 8 := by omega
  have h9 : K ≠ 9 := by omega
  clear hK
  go_enter Try.func31, Try.ntmps31
  go_wp2
  go_ret
  exact ⟨rfl, ⟨_, _, _, h.grown hga⟩, Gs.of hga (by simp)⟩

set_option maxRecDepth 100000 in
set_option maxHeartbeats 1000000 in
theorem ask_str_arg (w : World) (b g o cp rb : Nat) (ao : Option Addr) (n cap : Nat) (L : List UInt8) (at' : Nat) (h : Both w b g o cp rb ao n cap L at') (N M : Int) (hM : M < 0) :
    Calls Try.prog 31 #[.pointer (some ⟨b, 0, none⟩), .pointer (some ⟨rb, 0, none⟩), .agg #[.int .i64 6, .int .i64 N, .int .i64 M]] w fun e w' => AskOk w w' b g rb ao n cap L e := by
  have hga := World.grownBy_alloc w (.cells #[.int .i64 6, .int .i64 N, .int .i64 M] 59) none
  have hb := h.grown hga
  go_enter Try.func31, Try.ntmps31
  go_wp2_with fail
  refine (string_arg _ b g o _ cp M _ at' hb.rd hM).mono ?_
  rintro e w1 ⟨rfl, rfl⟩
  go_wp2_with fail
  refine (refStr_arg _ rb M hM).mono ?_
  rintro e w1 ⟨rfl, rfl⟩
  go_wp2_with fail
  refine (same_true _ none none 0 0 0 0 [] (Bs.empty _) (Bs.empty _)).mono ?_
  rintro e w1 ⟨rfl, rfl⟩
  go_wp2_with (go_at_call 27; refine (num_any _ _).mono ?_; rintro e w' ⟨rfl, rfl⟩)
  have hGs := Gs.of (S := Two b rb) hga (by simp)
  go_loopw [12] (fun i wr => i = .int .i64 0 ∧ Both wr b g o cp rb ao n cap L at' ∧ Gs (Two b rb) w wr) (fun _ _ => 0)
  case atStart => exact ⟨rfl, hb, hGs⟩
  case round =>
    obtain ⟨rfl, hbr, hgr⟩ := hrel
    go_wp2
    go_ret
    exact ⟨rfl, ⟨_, _, _, hbr⟩, hgr⟩

set_option maxRecDepth 100000 in
set_option maxHeartbeats 1000000 in
theorem ask_str_err (w : World) (b g o cp rb : Nat) (ao : Option Addr) (n cap : Nat) (L : List UInt8) (at' : Nat) (h : Both w b g o cp rb ao n cap L at') (N : Int) (M c : Nat) (hM : M < 9223372036854775808) (hc : Hid (sErr (L.drop at') M = c)) (hc0 : c ≠ 0) :
    Calls Try.prog 31 #[.pointer (some ⟨b, 0, none⟩), .pointer (some ⟨rb, 0, none⟩), .agg #[.int .i64 6, .int .i64 N, .int .i64 M]] w fun e w' => AskOk w w' b g rb ao n cap L e := by
  have hga := World.grownBy_alloc w (.cells #[.int .i64 6, .int .i64 N, .int .i64 M] 59) none
  have hb := h.grown hga
  have hrl := h.rf.lt
  have hbx := Bx.laid w 6 N M 59
  go_enter Try.func31, Try.ntmps31
  go_wp2_with fail
  refine (string_err _ b g o _ cp M c _ at' hb.rd hM hc hc0).mono ?_
  rintro e w1 ⟨rfl, hg1⟩
  have hb1 := hb.grown hg1
  have hbx1 := hbx.kept hg1 (by simp)
  have k2 := hbx1.c2
  clear hbx hb
  go_wp2_with fail
  refine (refStr_err _ rb ao n cap M c L at' hb1.rf hM hc hc0).mono ?_
  rintro e w2 ⟨rfl, hr2, hg2⟩
  have hb2 : Both w2 b g o cp rb ao n cap L at' := ⟨hb1.rd.kept hg2 (by simpa using hb1.ne) (by simpa using hb1.gr), hr2, hb1.ne, hb1.ab, hb1.gr⟩
  have hGs := ((Gs.of (S := Two b rb) hga (by simp)).then hg1 (by simp)).then hg2 (fun q hq => Or.inl (Or.inr (by simpa using hq.symm)))
  clear hb1 hbx1 k2 hr2 hg1 hg2
  go_wp2_with fail
  refine (same_true _ none none 0 0 0 0 [] (Bs.empty _) (Bs.empty _)).mono ?_
  rintro e w3 ⟨rfl, rfl⟩
  go_wp2_with (go_at_call 27; refine (num_any _ _).mono ?_; rintro e w' ⟨rfl, rfl⟩)
  go_loopw [12] (fun i wr => i = .int .i64 0 ∧ Both wr b g o cp rb ao n cap L at' ∧ Gs (Two b rb) w wr) (fun _ _ => 0)
  case atStart => exact ⟨rfl, hb2, hGs⟩
  case round =>
    obtain ⟨rfl, hbr, hgr⟩ := hrel
    go_wp2
    go_ret
    exact ⟨rfl, ⟨_, _, _, hbr⟩, hgr⟩

set_option maxRecDepth 100000 in
set_option maxHeartbeats 1000000 in
theorem ask_str_ok (w : World) (b g o cp rb : Nat) (ao : Option Addr) (n cap : Nat) (L : List UInt8) (at' : Nat) (h : Both w b g o cp rb ao n cap L at') (N : Int) (M v : Nat) (hM : M < 9223372036854775808) (hn : 4 ≤ n - at') (hV : Hid (v = val ((L.drop at').take 4))) (hvl : v < 4294967296) (hv : v ≤ M) (hv2 : v ≤ n - at' - 4) :
    Calls Try.prog 31 #[.pointer (some ⟨b, 0, none⟩), .pointer (some ⟨rb, 0, none⟩), .agg #[.int .i64 6, .int .i64 N, .int .i64 M]] w fun e w' => AskOk w w' b g rb ao n cap L e := by
  have hga := World.grownBy_alloc w (.cells #[.int .i64 6, .int .i64 N, .int .i64 M] 59) none
  have hb := h.grown hga
  have hrl := h.rf.lt
  have hbl := h.rd.lt
  have hgl := h.rd.gl
  obtain ⟨ab, aof, hao, hal⟩ := h.rf.bs.addr (by omega)
  have hbx := Bx.laid w 6 N M 59
  have hSI : Hid (((L.drop at').drop 4).take v = sItem (L.drop at')) := by show _ = _; rw [sItem, ← hV.out]
  go_enter Try.func31, Try.ntmps31
  go_wp2_with fail
  refine (string_ok _ b g o _ cp M v _ at' hb.rd hM hn hV hvl hv hv2).mono ?_
  rintro e w1 ⟨g1, rfl, ho1, o2, cp2, hr1, hg1⟩
  rw [hSI.out] at ho1
  have hf1 := hb.rf1 hg1
  have hbx1 := hbx.kept hg1 (by simp; omega)
  have k2 := hbx1.c2
  have hg1l := ho1.from_base g1 rfl
  have hwh : (w.alloc (.cells #[.int .i64 6, .int .i64 N, .int .i64 M] 59)).heap.size = w.heap.size + 1 := by simp
  have hg1b : w.heap.size + 1 ≤ g1 := by omega
  clear hbx hg1l hwh
  go_wp2_with fail
  refine (refStr_ok _ rb ao n cap M v L at' hf1 hM hn hV hvl hv hv2).mono ?_
  rintro e w2 ⟨so, sc, rfl, hbs2, hblk, hf2, hg2⟩
  have hst := hb.step (k := 4 + v) (by rw [← List.drop_drop, ← Nat.sub_sub, ← Nat.add_assoc]; exact hr1) hg1 (by rw [← Nat.add_assoc]; exact hf2) hg2
  have ho2 := ho1.kept hg2 (Or.inr (by simp [blk]; omega))
  have hGs := (Gs.of (S := Two b rb) hga (by simp)).trans hst.2
  have hB2 := hst.1
  clear hst hbx1 k2 hf1 hf2 hr1 ho1 hg1 hg2 hb
  go_wp2_with fail
  refine (same_true _ _ _ v v v sc _ ho2.shows hbs2).mono ?_
  rintro e w3 ⟨rfl, rfl⟩
  go_wp2_with (go_at_call 27; refine (num_any _ _).mono ?_; rintro e w' ⟨rfl, rfl⟩)
  clear hbs2
  go_loopw [12] (fun i wr => ∃ (k : Nat) (l' : List UInt8), k ≤ v ∧ i = .int .i64 k ∧ Ow wr (w.heap.size + 1) 5 (some ⟨g1, 0, none⟩) v v l' ∧ Both wr b g o2 cp2 rb ao n cap L (at' + (4 + v)) ∧ Gs (Two b rb) w wr) (fun i _ => v - (intOf i).toNat)
  case atStart => exact ⟨0, _, Nat.zero_le _, rfl, ho2.rebase (by simp), hB2, hGs⟩
  case round =>
    obtain ⟨k, l', hk, rfl, hor, hBr, hgr⟩ := hrel
    by_cases hlt : k < v
    · have hfz := hor.there
      have hj : k < l'.length := by rw [hor.len]; exact hlt
      have hcell := hor.shows.at hj
      rw [Nat.zero_add] at hcell
      have hset := hor.set k 9
      have hsg := setCell_grown wr g1 k (bv 9)
      have hB3 : Both (wr.setCell ⟨g1, k, none⟩ (bv 9)) b g o2 cp2 rb ao n cap L (at' + (4 + v)) := ⟨hBr.rd.kept hsg (by simp; omega) (by simp; omega), hBr.rf.kept hsg (by simp; omega) (fun a ha => by rw [hao] at ha; obtain rfl := Option.some.inj ha; simp; omega), hBr.ne, hBr.ab, hBr.gr⟩
      have hGr := hgr.then hsg (fun q hq => Or.inr (by simp at hq; omega))
      clear hBr hgr hor hsg
      go_wp2
      go_roundw
      case rel => exact ⟨k + 1, _, by omega, by go_num, hset, hB3, hGr⟩
      case measure => simp [intOf]; omega
    · obtain rfl : k = v := by omega
      go_wp2
      go_ret
      exact ⟨rfl, ⟨_, _, _, hBr⟩, hgr⟩

theorem ask_str (w : World) (b g o cp rb : Nat) (ao : Option Addr) (n cap : Nat) (L : List UInt8) (at' : Nat) (h : Both w b g o cp rb ao n cap L at') (N M : Int) (hM : M < 9223372036854775808) :
    Calls Try.prog 31 #[.pointer (some ⟨b, 0, none⟩), .pointer (some ⟨rb, 0, none⟩), .agg #[.int .i64 6, .int .i64 N, .int .i64 M]] w fun e w' => AskOk w w' b g rb ao n cap L e := by
  by_cases h0 : M < 0
  · exact ask_str_arg w b g o cp rb ao n cap L at' h N M h0
  · obtain ⟨m, rfl⟩ : ∃ m : Nat, M = (m : Int) := ⟨M.toNat, by omega⟩
    by_cases hs : sErr (L.drop at') m = 0
    · have hso := sErr_ok (n := n - at') hs h.rf.left_len
      have h3 := val_lt ((L.drop at').take 4)
      rw [List.length_take, h.rf.left_len, Nat.min_eq_left (by omega)] at h3
      exact ask_str_ok w b g o cp rb ao n cap L at' h N m _ (by omega) hso.1 rfl h3 hso.2.1 hso.2.2
    · exact ask_str_err w b g o cp rb ao n cap L at' h N m _ (by omega) rfl hs

end Go.Proofs.Ytocicepnlepfeaa
