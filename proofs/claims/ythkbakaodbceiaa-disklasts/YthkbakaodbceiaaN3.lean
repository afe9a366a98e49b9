/-
  play: a script's calls made on a new disk.
-/
import Derived.Test.YthkbakaodbceiaaN2
namespace Go.Proofs.Ythkbakaodbceiaa
open Go.RowKit Go.Maps Go.WideMaps
set_option linter.unusedVariables false

/-- Where the loop stands. -/
def Lf (w wr : World) (b m base i : Nat) : Prop := w.grownBy wr none ∧ ∃ fs st n D X B, Iv wr b m base fs st n D X B i
theorem grown_on {w w1 w2 : World} {base : Nat} (h : w.grownBy w1 none) (hc : Chg w1 w2 (fun k => base ≤ k)) (hb : w.heap.size ≤ base) : w.grownBy w2 none :=
  ⟨hc.os.trans h.os, hc.tape.trans h.tape, hc.output.trans h.output, Nat.le_trans h.size hc.size, fun k hk _ => (hc.block k (Nat.lt_of_lt_of_le hk h.size) (by omega)).trans (h.block k hk (by simp))⟩

set_option maxRecDepth 100000 in
set_option maxHeartbeats 16000000 in
theorem play_all {w : World} {fo : Option Addr} {fn fc : Nat} {fs : List (Int × Int)} (hf : Ft w fo fn fc fs) (hfb : ∀ a, fo = some a → a.block < w.heap.size) (hfn : fn ≤ 100) (hw : fw fs = true) {so : Option Addr} {sn sc : Nat} {l : List Sx} (hS : Sl w so sn sc l) (hsn : sn ≤ 300) (hb3 : ∀ x ∈ l, x.bn ≤ 3000) (hx : ∀ x ∈ l, x.fn ≤ 100 ∧ x.fn ≤ x.fc ∧ ∃ t, Fx w x.fo x.fn x.fc t) :
    Calls Try.prog 38 #[.slice fo fn fc, .slice so sn sc] w fun e w' => ∃ b, e = .returned (.pointer (some ⟨b, 0, none⟩)) ∧ ∃ m, Lf w w' b m w.heap.size sn := by
  have HB3 : Hid _ := hb3
  have HK9 : Hid _ := hx
  have hlen := hS.len
  have hfl := hf.len
  clear hb3 hx
  go_enter Try.func38, Try.ntmps38
  go_wp2_with fail
  refine (new_any hf (by omega) hfb).mono ?_
  rintro e w4 (⟨h0, _⟩ | ⟨_, he, hD4, hg4⟩)
  · rw [hw] at h0; cases h0
  · obtain ⟨b, hb⟩ : ∃ b, w.heap.size + 1 = b := ⟨_, rfl⟩
    obtain ⟨m, hm⟩ : ∃ m, w.heap.size = m := ⟨_, rfl⟩
    rw [hb] at he hD4
    rw [hm] at hD4
    subst he
    obtain ⟨base, hbase⟩ : ∃ base, w.heap.size = base := ⟨_, rfl⟩
    have l1 : base ≤ b := by omega
    have l2 : base ≤ m := by omega
    have hs4 := hg4.size
    have hL0 : Lf w w4 b m base 0 := ⟨hg4, fs, 0, 0, _, _, _, Iv.new hD4 (by omega) l1 l2 (by omega)⟩
    have l3 : w.heap.size ≤ base := by omega
    have HS : Hid _ := hS
    have HBA : Hid _ := hbase
    have hroom := hS.room
    have htop := hS.top
    unfold maxLen at htop
    clear hb hm hf hfb hD4 hg4 hw hs4 hS hbase
    go_wp2_with fail
    go_loopw [7, 8] (fun i' _ wr => ∃ i : Nat, i' = .int .i64 i ∧ i ≤ sn ∧ Lf w wr b m base i) (fun i _ _ => sn - (intOf i).toNat)
    case atStart => exact ⟨0, rfl, Nat.zero_le _, hL0⟩
    case round =>
      obtain ⟨i, rfl, hin, hgw, fs, st, n, D, X, B, hI⟩ := hrel
      by_cases hlt : i < sn
      · have dl : decide ((i : Int) < (sn : Int)) = true := by simp; omega
        have dl2 : decide (i < sn) = true := by simpa using hlt
        cases so with
        | none => exfalso; have := HS.out.nil rfl; omega
        | some sa =>
          obtain ⟨ob, oi, rfl⟩ := HS.out.pl sa rfl
          have hil : i < l.length := by omega
          have hc := (HS.out.k ob oi rfl i l[i] (by simp [hil])).grown hgw
          have hmem : l[i] ∈ l := List.getElem_mem hil
          obtain ⟨bt, hbt⟩ := HS.out.bs _ hmem
          have hbp := HS.out.bp _ hmem
          have hb3 := HB3.out _ hmem
          obtain ⟨hf100, hfcx, ft, hft⟩ := HK9.out _ hmem
          clear hmem
          generalize l[i] = x at *
          have c0 := hc.c0
          have c1 := hc.c1
          have c2 := hc.c2
          have c3 := hc.c3
          have c4 := hc.c4
          have c5 := hc.c5
          have c6 := hc.c6
          have hga := alloc_grown wr (.cells #[.int .i64 x.kd, .int .i64 x.pl, .int .i64 x.nn, .string x.nm, .slice x.bo x.bn x.bc, .slice x.fo x.fn x.fc, .slice x.po x.pn x.pc] 41)
          have hI7 := hI.grown hga
          have hgw7 := grown_trans hgw hga (by simp)
          have hBt7 := hbt.grown hgw7
          have wz : IntKind.i64.wrap ((i : Int) + 1) = ((i + 1 : Nat) : Int) := by rw [IntWalk.i64_in _ (by omega)]; push_cast; rfl
          have hi3 : i < 300 := by omega
          have hft7 := hft.grown hgw7
          have HI7 : Hid _ := hI7
          clear hc hI hga hI7
          by_cases e1 : x.kd = 1
          · rw [e1] at c0 HI7 hgw7 hBt7 hft7
            have hop := create_op HI7.out hi3 x.nm
            go_wp2_with fail
            refine hop.mono ?_
            clear hop
            rintro e w8 ⟨f, rfl, hR⟩
            have hL : Lf w w8 b m base (i + 1) := by
              rcases hR with ⟨rfl, hfc⟩ | ⟨hfc, ⟨n8, D8, X8, B8, hI8⟩, hC8⟩
              · exact ⟨hgw7, fs, st, n, D, X, B, HI7.out.mono⟩
              · exact ⟨grown_on hgw7 hC8 l3, _, _, _, _, _, _, hI8⟩
            clear hR
            go_wp2
            go_roundw
            case rel => exact ⟨i + 1, by first | rfl | simp, by omega, hL⟩
            case measure => simp [intOf]; omega
          have n1 : (x.kd == 1) = false := by simpa using e1
          by_cases e2 : x.kd = 2
          · rw [e2] at c0 HI7 hgw7 hBt7 hft7
            have hop := append_op HI7.out hi3 x.nm x.bo x.bn x.bc bt hBt7 hb3 (fun a e => (hbp a e).imp id (fun h => by omega))
            go_wp2_with fail
            refine hop.mono ?_
            clear hop
            rintro e w8 ⟨f, rfl, hR⟩
            have hL : Lf w w8 b m base (i + 1) := by
              rcases hR with ⟨rfl, hfc⟩ | ⟨hfc, ⟨n8, D8, X8, B8, hI8⟩, hC8⟩
              · exact ⟨hgw7, fs, st, n, D, X, B, HI7.out.mono⟩
              · exact ⟨grown_on hgw7 hC8 l3, _, _, _, _, _, _, hI8⟩
            clear hR
            go_wp2
            go_roundw
            case rel => exact ⟨i + 1, by first | rfl | simp, by omega, hL⟩
            case measure => simp [intOf]; omega
          have n2 : (x.kd == 2) = false := by simpa using e2
          by_cases e3 : x.kd = 3
          · rw [e3] at c0 HI7 hgw7 hBt7 hft7
            have hop := sync_op HI7.out hi3 x.nm
            go_wp2_with fail
            refine hop.mono ?_
            clear hop
            rintro e w8 ⟨f, rfl, hR⟩
            have hL : Lf w w8 b m base (i + 1) := by
              rcases hR with ⟨rfl, hfc⟩ | ⟨hfc, ⟨n8, D8, X8, B8, hI8⟩, hC8⟩
              · exact ⟨hgw7, fs, st, n, D, X, B, HI7.out.mono⟩
              · exact ⟨grown_on hgw7 hC8 l3, _, _, _, _, _, _, hI8⟩
            clear hR
            go_wp2
            go_roundw
            case rel => exact ⟨i + 1, by first | rfl | simp, by omega, hL⟩
            case measure => simp [intOf]; omega
          have n3 : (x.kd == 3) = false := by simpa using e3
          by_cases e4 : x.kd = 4
          · rw [e4] at c0 HI7 hgw7 hBt7 hft7
            have hop := syncdir_op HI7.out hi3
            go_wp2_with fail
            refine hop.mono ?_
            clear hop
            rintro e w8 ⟨f, rfl, hR⟩
            have hL : Lf w w8 b m base (i + 1) := by
              rcases hR with ⟨rfl, hfc⟩ | ⟨hfc, ⟨n8, D8, X8, B8, hI8⟩, hC8⟩
              · exact ⟨hgw7, fs, st, n, D, X, B, HI7.out.mono⟩
              · exact ⟨grown_on hgw7 hC8 l3, _, _, _, _, _, _, hI8⟩
            clear hR
            go_wp2
            go_roundw
            case rel => exact ⟨i + 1, by first | rfl | simp, by omega, hL⟩
            case measure => simp [intOf]; omega
          have n4 : (x.kd == 4) = false := by simpa using e4
          by_cases e5 : x.kd = 5
          · rw [e5] at c0 HI7 hgw7 hBt7 hft7
            have hop := cut_op HI7.out hi3 x.nm x.nn
            go_wp2_with fail
            refine hop.mono ?_
            clear hop
            rintro e w8 ⟨f, rfl, hR⟩
            have hL : Lf w w8 b m base (i + 1) := by
              rcases hR with ⟨rfl, hfc⟩ | ⟨hfc, ⟨n8, D8, X8, B8, hI8⟩, hC8⟩
              · exact ⟨hgw7, fs, st, n, D, X, B, HI7.out.mono⟩
              · exact ⟨grown_on hgw7 hC8 l3, _, _, _, _, _, _, hI8⟩
            clear hR
            go_wp2
            go_roundw
            case rel => exact ⟨i + 1, by first | rfl | simp, by omega, hL⟩
            case measure => simp [intOf]; omega
          have n5 : (x.kd == 5) = false := by simpa using e5
          by_cases e6 : x.kd = 6
          · rw [e6] at c0 HI7 hgw7 hBt7 hft7
            have hop := remove_op HI7.out hi3 x.nm
            go_wp2_with fail
            refine hop.mono ?_
            clear hop
            rintro e w8 ⟨f, rfl, hR⟩
            have hL : Lf w w8 b m base (i + 1) := by
              rcases hR with ⟨rfl, hfc⟩ | ⟨hfc, ⟨n8, D8, X8, B8, hI8⟩, hC8⟩
              · exact ⟨hgw7, fs, st, n, D, X, B, HI7.out.mono⟩
              · exact ⟨grown_on hgw7 hC8 l3, _, _, _, _, _, _, hI8⟩
            clear hR
            go_wp2
            go_roundw
            case rel => exact ⟨i + 1, by first | rfl | simp, by omega, hL⟩
            case measure => simp [intOf]; omega
          have n6 : (x.kd == 6) = false := by simpa using e6
          by_cases e9 : x.kd = 9
          · rw [e9] at c0 HI7 hgw7 hBt7 hft7
            have hop := feed_op HI7.out (by omega) hft7 hfcx hf100
            go_wp2_with fail
            refine hop.mono ?_
            clear hop
            rintro e w8 ⟨f, rfl, ⟨fs', hI8⟩, hC8⟩
            have hL : Lf w w8 b m base (i + 1) := ⟨grown_on hgw7 hC8 l3, _, _, _, _, _, _, hI8⟩
            clear hI8 hC8
            go_wp2
            go_roundw
            case rel => exact ⟨i + 1, by first | rfl | simp, by omega, hL⟩
            case measure => simp [intOf]; omega
          have n9 : (x.kd == 9) = false := by simpa using e9
          have hL : Lf w _ b m base (i + 1) := ⟨hgw7, fs, st, n, D, X, B, HI7.out.mono⟩
          go_wp2
          go_roundw
          case rel => exact ⟨i + 1, by first | rfl | simp, by omega, hL⟩
          case measure => simp [intOf]; omega
      · obtain rfl : i = sn := by omega
        have dl : decide ((i : Int) < (i : Int)) = false := by simp
        have hL : Hid (Lf w wr b m base i) := ⟨hgw, fs, st, n, D, X, B, hI⟩
        clear hI
        go_wp2
        go_ret
        exact ⟨b, rfl, m, by rw [HBA.out]; exact hL.out⟩
end Go.Proofs.Ythkbakaodbceiaa
