/-
  DiskRefused: the walk.
-/
import Derived.Test.YthkbakaodbceiaaI8
import Derived.Test.YthkbakaodbceiaaG5
namespace Go.Proofs.Ythkbakaodbceiaa
open Go.RowKit Go.Maps Go.WideMaps
set_option linter.unusedVariables false

/-- Where the loop stands. -/
def Lp (w wr : World) (b m base i : Nat) : Prop := w.grownBy wr none ∧ ∃ fs st n D X B, Iv wr b m base fs st n D X B i

/-- A box of one call of the script. -/
def Bx (w : World) (g : Nat) (x : Sx) : Prop := w.heap[g]? = some (.cells #[.int .i64 x.kd, .int .i64 x.pl, .int .i64 x.nn, .string x.nm, .slice x.bo x.bn x.bc, .slice x.fo x.fn x.fc, .slice x.po x.pn x.pc] 41)
theorem Bx.grown {w w' : World} {g : Nat} {x : Sx} (h : Bx w g x) (hg : w.grownBy w' none) : Bx w' g x := (hg.block g (Array.getElem?_eq_some_iff.1 h).1 (by simp)).trans h
theorem grown_chg {w w1 w2 : World} {base : Nat} (h : w.grownBy w1 none) (hc : Chg w1 w2 (fun k => base ≤ k)) (hb : w.heap.size ≤ base) : w.grownBy w2 none :=
  ⟨hc.os.trans h.os, hc.tape.trans h.tape, hc.output.trans h.output, Nat.le_trans h.size hc.size, fun k hk _ => (hc.block k (Nat.lt_of_lt_of_le hk h.size) (by omega)).trans (h.block k hk (by simp))⟩

set_option maxRecDepth 100000 in
set_option maxHeartbeats 16000000 in
theorem diskRefused_any {w : World} {fo : Option Addr} {fn fc : Nat} {fs : List (Int × Int)} (hf : Ft w fo fn fc fs) (hfb : ∀ a, fo = some a → a.block < w.heap.size) {so : Option Addr} {sn sc : Nat} {l : List Sx} (hS : Sl w so sn sc l) :
    Calls Try.prog 7 #[.slice fo fn fc, .slice so sn sc] w fun e w' => e = .returned (.bool true) ∧ w.grownBy w' none := by
  have hfl := hf.len
  by_cases hbig : 100 < fn
  · have d1 : decide ((100 : Int) < (fn : Int)) = true := by simp; omega
    have d2 : decide (100 < fn) = true := by simpa using hbig
    clear hf hS
    go_enter Try.func7, Try.ntmps7
    go_wp2_with fail
    refine (known_any _).mono ?_
    rintro e w2 ⟨rfl, hg2⟩
    go_wp2
    go_ret
    exact ⟨rfl, hg2⟩
  · have d1 : decide ((100 : Int) < (fn : Int)) = false := by simp; omega
    have d2 : decide (100 < fn) = false := by simpa using hbig
    cases hv : vR l with
    | true =>
      have hva := vast_any hS
      rw [hv] at hva
      clear hf hS
      go_enter Try.func7, Try.ntmps7
      go_wp2_with fail
      refine hva.mono ?_
      rintro e w2 ⟨rfl, hg2⟩
      go_wp2_with fail
      refine (known_any _).mono ?_
      rintro e w3 ⟨rfl, hg3⟩
      have hG := grown_trans hg2 hg3 (by simp)
      go_wp2
      go_ret
      exact ⟨rfl, hG⟩
    | false =>
      have hva := vast_any hS
      rw [hv] at hva
      obtain ⟨hl300, hb3⟩ := vR_false hv
      have HB3 : Hid _ := hb3
      have hlen := hS.len
      clear hb3
      cases hw : fw fs with
      | false =>
        go_enter Try.func7, Try.ntmps7
        go_wp2_with fail
        refine hva.mono ?_
        rintro e w2 ⟨rfl, hg2⟩
        have hr := right_any (hf.chg (Chg.of_grown hg2 (fun _ => False)) (fun _ _ e => e)) (by omega)
        rw [hw] at hr
        go_wp2_with fail
        refine hr.mono ?_
        rintro e w3 ⟨rfl, hg3⟩
        have hG := grown_trans hg2 hg3 (by simp)
        go_wp2_with fail
        refine (known_any _).mono ?_
        rintro e w4 ⟨rfl, hg4⟩
        have hG := grown_trans hG hg4 (by simp)
        go_wp2
        go_ret
        exact ⟨rfl, hG⟩
      | true =>
        go_enter Try.func7, Try.ntmps7
        go_wp2_with fail
        refine hva.mono ?_
        rintro e w2 ⟨rfl, hg2⟩
        have hf2 := hf.chg (Chg.of_grown hg2 (fun _ => False)) (fun _ _ e => e)
        have hr := right_any hf2 (by omega)
        rw [hw] at hr
        go_wp2_with fail
        refine hr.mono ?_
        rintro e w3 ⟨rfl, hg3⟩
        have hG3 := grown_trans hg2 hg3 (by simp)
        have hf3 := hf2.chg (Chg.of_grown hg3 (fun _ => False)) (fun _ _ e => e)
        have hs3 := hG3.size
        go_wp2_with fail
        refine (new_any hf3 (by omega) (fun a e => Nat.lt_of_lt_of_le (hfb a e) hs3)).mono ?_
        rintro e w4 (⟨h0, _⟩ | ⟨_, he, hD4, hg4⟩)
        · rw [hw] at h0; cases h0
        · obtain ⟨b, hb⟩ : ∃ b, w3.heap.size + 1 = b := ⟨_, rfl⟩
          obtain ⟨m, hm⟩ : ∃ m, w3.heap.size = m := ⟨_, rfl⟩
          rw [hb] at he hD4
          rw [hm] at hD4
          subst he
          obtain ⟨base, hbase⟩ : ∃ base, w.heap.size = base := ⟨_, rfl⟩
          have l1 : base ≤ b := by omega
          have l2 : base ≤ m := by omega
          have hG4 := grown_trans hG3 hg4 (by simp)
          have hs4 := hG4.size
          have hL0 : Lp w w4 b m base 0 := ⟨hG4, fs, 0, 0, _, _, _, Iv.new hD4 (by omega) l1 l2 (by omega)⟩
          have l3 : w.heap.size ≤ base := by omega
          have HS : Hid _ := hS
          have hroom := hS.room
          have htop := hS.top
          unfold maxLen at htop
          clear hb hm hva hr hf hf2 hf3 hfb hD4 hG3 hg2 hg3 hg4 hw hs3 hs4 hS
          go_wp2_with fail
          go_loopw [7, 8, 9, 10, 11, 12, 13, 14] (fun i' _ _ _ _ _ _ _ wr => ∃ i : Nat, i' = .int .i64 i ∧ i ≤ sn ∧ Lp w wr b m base i) (fun i _ _ _ _ _ _ _ _ => sn - (intOf i).toNat)
          case atStart => exact ⟨0, rfl, Nat.zero_le _, hL0⟩
          case round =>
            obtain ⟨i, rfl, hin, hgw, fs, st, n, D, X, B, hI⟩ := hrel
            by_cases hlt : i < sn
            · have dl : decide ((i : Int) < (sn : Int)) = true := by simp; omega
              have dl2 : decide (i < sn) = true := by simpa using hlt
              cases so with
              | none => exfalso; have := HS.out.nil rfl; omega
              | some sa =>
                obtain ⟨ob, oi, rfl⟩ := HS.out.pl sa rfl
                have hil : i < l.length := by omega
                have hc := (HS.out.k ob oi rfl i l[i] (by simp [hil])).grown hgw
                have hmem : l[i] ∈ l := List.getElem_mem hil
                obtain ⟨bt, hbt⟩ := HS.out.bs _ hmem
                have hbp := HS.out.bp _ hmem
                have hb3 := HB3.out _ hmem
                clear hmem
                generalize l[i] = x at *
                have c0 := hc.c0
                have c1 := hc.c1
                have c2 := hc.c2
                have c3 := hc.c3
                have c4 := hc.c4
                have c5 := hc.c5
                have c6 := hc.c6
                have hga := alloc_grown wr (.cells #[.int .i64 x.kd, .int .i64 x.pl, .int .i64 x.nn, .string x.nm, .slice x.bo x.bn x.bc, .slice x.fo x.fn x.fc, .slice x.po x.pn x.pc] 41)
                have hbx : Bx _ wr.heap.size x := World.alloc_heap_new wr _
                have hI5 := hI.grown hga
                have hgwa := grown_trans hgw hga (by simp)
                have wz : IntKind.i64.wrap ((i : Int) + 1) = ((i + 1 : Nat) : Int) := by rw [IntWalk.i64_in _ (by omega)]; push_cast; rfl
                clear hc
                have hcp := copy_any hI5.ds (by have := hI.fsl; omega) X B (hI5.fb (by omega)) (by have := hI.sz; omega)
                go_wp2_with fail
                refine hcp.mono ?_
                clear hcp c0 c1 c2 c3 c4 c5 c6
                rintro e w6 ⟨cb, rfl, cm, cbase, cn, cD, hcd, hcl1, hcl2, hcl3, hg6, hCp⟩
                have hI6 := hI5.grown hg6
                have hbx6 := hbx.grown hg6
                have hgw6 := grown_trans hgwa hg6 (by simp)
                go_wp2_with fail
                refine (steps_ds hI6.ds).mono ?_
                rintro e w7 ⟨rfl, hg7⟩
                have hI7 := hI6.grown hg7
                have hbx7 := hbx6.grown hg7
                have hgw7 := grown_trans hgw6 hg7 (by simp)
                have hcd7 := hcd.chg (Chg.of_grown hg7 (fun _ => False)) (fun e => e) (fun e => e) (fun k e => e.elim)
                have hCp7 := hCp.grown hg7
                have hBt7 := hbt.grown hgw7
                have hst0 := hI.st0
                have hst1 := hI.st1
                have hfsl := hI.fsl
                have k0 : w7.cell? ⟨wr.heap.size, 0, none⟩ = some (.int .i64 x.kd) := cell_of hbx7 rfl
                have k2 : w7.cell? ⟨wr.heap.size, 2, none⟩ = some (.int .i64 x.nn) := cell_of hbx7 rfl
                have k3 : w7.cell? ⟨wr.heap.size, 3, none⟩ = some (.string x.nm) := cell_of hbx7 rfl
                have k4 : w7.cell? ⟨wr.heap.size, 4, none⟩ = some (.slice x.bo x.bn x.bc) := cell_of hbx7 rfl
                obtain ⟨z8, hz8⟩ : ∃ z8, wr.heap.size = z8 := ⟨_, rfl⟩
                rw [hz8] at k0 k2 k3 k4
                simp only [hz8]
                have wst : IntKind.i64.wrap (st + 1) = st + 1 := by rw [IntWalk.i64_in _ (by omega)]
                have hmx : max (0 : Int) (IntKind.i64.wrap ((fs.length : Int) - 1)) = (fs.tail.length : Int) := by
                  rw [IntWalk.i64_in _ (by omega)]
                  cases fs <;> simp <;> omega
                have hmx2 : max (0 : Int) ((fs.length : Int) - 1) = (fs.tail.length : Int) := by cases fs <;> simp <;> omega
                have hsm : ∀ W, w7.grownBy W none → Calls Try.prog 36 #[.pointer (some ⟨b, 0, none⟩), .pointer (some ⟨cb, 0, none⟩)] W fun e w' => e = .returned (.bool true) ∧ W.grownBy w' none := fun W hW => same_copy (hI7.grown hW).ds ((hI7.grown hW).fb (by omega)) (hcd7.chg (Chg.of_grown hW (fun _ => False)) (fun e => e) (fun e => e) (fun k e => e.elim)) (hCp7.grown hW)
                have hi3 : i < 300 := by omega
                have HI7 : Hid _ := hI7
                clear hI5 hI6 hbx hbx6 hbx7 hcd hCp hz8 hI hg6 hgw6 hgwa hga hg7
                by_cases e1 : x.kd = 1
                · rw [e1] at k0
                  have hop := create_op HI7.out hi3 x.nm
                  go_wp2_with fail
                  refine hop.mono ?_
                  clear hop
                  rintro e w8 ⟨f, rfl, hR⟩
                  rcases hR with ⟨rfl, hfc⟩ | ⟨hfc, ⟨n8, D8, X8, B8, hI8⟩, hC8⟩
                  · rcases hfc with rfl | rfl | rfl | rfl
                    · go_wp2_with fail
                      refine (steps_ds HI7.out.ds).mono ?_
                      rintro e w9 ⟨rfl, hg9⟩
                      go_wp2_with fail
                      refine (hsm _ hg9).mono ?_
                      rintro e w10 ⟨rfl, hg10⟩
                      have hg79 := grown_trans hg9 hg10 (by simp)
                      have hL : Lp w w10 b m base (i + 1) := ⟨grown_trans hgw7 hg79 (by simp), fs, st, n, D, X, B, (HI7.out.grown hg79).mono⟩
                      go_wp2
                      go_roundw
                      case rel => exact ⟨i + 1, by first | rfl | simp, by omega, hL⟩
                      case measure => simp [intOf]; omega
                    · go_wp2_with fail
                      refine (steps_ds HI7.out.ds).mono ?_
                      rintro e w9 ⟨rfl, hg9⟩
                      go_wp2_with fail
                      refine (hsm _ hg9).mono ?_
                      rintro e w10 ⟨rfl, hg10⟩
                      have hg79 := grown_trans hg9 hg10 (by simp)
                      have hL : Lp w w10 b m base (i + 1) := ⟨grown_trans hgw7 hg79 (by simp), fs, st, n, D, X, B, (HI7.out.grown hg79).mono⟩
                      go_wp2
                      go_roundw
                      case rel => exact ⟨i + 1, by first | rfl | simp, by omega, hL⟩
                      case measure => simp [intOf]; omega
                    · go_wp2_with fail
                      refine (steps_ds HI7.out.ds).mono ?_
                      rintro e w9 ⟨rfl, hg9⟩
                      go_wp2_with fail
                      refine (hsm _ hg9).mono ?_
                      rintro e w10 ⟨rfl, hg10⟩
                      have hg79 := grown_trans hg9 hg10 (by simp)
                      have hL : Lp w w10 b m base (i + 1) := ⟨grown_trans hgw7 hg79 (by simp), fs, st, n, D, X, B, (HI7.out.grown hg79).mono⟩
                      go_wp2
                      go_roundw
                      case rel => exact ⟨i + 1, by first | rfl | simp, by omega, hL⟩
                      case measure => simp [intOf]; omega
                    · go_wp2_with fail
                      refine (steps_ds HI7.out.ds).mono ?_
                      rintro e w9 ⟨rfl, hg9⟩
                      go_wp2_with fail
                      refine (hsm _ hg9).mono ?_
                      rintro e w10 ⟨rfl, hg10⟩
                      have hg79 := grown_trans hg9 hg10 (by simp)
                      have hL : Lp w w10 b m base (i + 1) := ⟨grown_trans hgw7 hg79 (by simp), fs, st, n, D, X, B, (HI7.out.grown hg79).mono⟩
                      go_wp2
                      go_roundw
                      case rel => exact ⟨i + 1, by first | rfl | simp, by omega, hL⟩
                      case measure => simp [intOf]; omega
                  · rcases hfc with rfl | rfl | rfl
                    · go_wp2_with fail
                      refine (steps_ds hI8.ds).mono ?_
                      rintro e w9 ⟨rfl, hg9⟩
                      have hL : Lp w w9 b m base (i + 1) := ⟨grown_trans (grown_chg hgw7 hC8 l3) hg9 (by simp), _, _, _, _, _, _, hI8.grown hg9⟩
                      clear hI8
                      go_wp2
                      go_roundw
                      case rel => exact ⟨i + 1, by first | rfl | simp, by omega, hL⟩
                      case measure => simp [intOf]; omega
                    · go_wp2_with fail
                      refine (steps_ds hI8.ds).mono ?_
                      rintro e w9 ⟨rfl, hg9⟩
                      have hL : Lp w w9 b m base (i + 1) := ⟨grown_trans (grown_chg hgw7 hC8 l3) hg9 (by simp), _, _, _, _, _, _, hI8.grown hg9⟩
                      clear hI8
                      go_wp2
                      go_roundw
                      case rel => exact ⟨i + 1, by first | rfl | simp, by omega, hL⟩
                      case measure => simp [intOf]; omega
                    · go_wp2_with fail
                      refine (steps_ds hI8.ds).mono ?_
                      rintro e w9 ⟨rfl, hg9⟩
                      have hL : Lp w w9 b m base (i + 1) := ⟨grown_trans (grown_chg hgw7 hC8 l3) hg9 (by simp), _, _, _, _, _, _, hI8.grown hg9⟩
                      clear hI8
                      go_wp2
                      go_roundw
                      case rel => exact ⟨i + 1, by first | rfl | simp, by omega, hL⟩
                      case measure => simp [intOf]; omega
                have n1 : (x.kd == 1) = false := by simpa using e1
                by_cases e2 : x.kd = 2
                · rw [e2] at k0
                  have hop := append_op HI7.out hi3 x.nm x.bo x.bn x.bc bt hBt7 hb3 (fun a e => (hbp a e).imp id (fun h => by omega))
                  go_wp2_with fail
                  refine hop.mono ?_
                  clear hop
                  rintro e w8 ⟨f, rfl, hR⟩
                  rcases hR with ⟨rfl, hfc⟩ | ⟨hfc, ⟨n8, D8, X8, B8, hI8⟩, hC8⟩
                  · rcases hfc with rfl | rfl | rfl | rfl
                    · go_wp2_with fail
                      refine (steps_ds HI7.out.ds).mono ?_
                      rintro e w9 ⟨rfl, hg9⟩
                      go_wp2_with fail
                      refine (hsm _ hg9).mono ?_
                      rintro e w10 ⟨rfl, hg10⟩
                      have hg79 := grown_trans hg9 hg10 (by simp)
                      have hL : Lp w w10 b m base (i + 1) := ⟨grown_trans hgw7 hg79 (by simp), fs, st, n, D, X, B, (HI7.out.grown hg79).mono⟩
                      go_wp2
                      go_roundw
                      case rel => exact ⟨i + 1, by first | rfl | simp, by omega, hL⟩
                      case measure => simp [intOf]; omega
                    · go_wp2_with fail
                      refine (steps_ds HI7.out.ds).mono ?_
                      rintro e w9 ⟨rfl, hg9⟩
                      go_wp2_with fail
                      refine (hsm _ hg9).mono ?_
                      rintro e w10 ⟨rfl, hg10⟩
                      have hg79 := grown_trans hg9 hg10 (by simp)
                      have hL : Lp w w10 b m base (i + 1) := ⟨grown_trans hgw7 hg79 (by simp), fs, st, n, D, X, B, (HI7.out.grown hg79).mono⟩
                      go_wp2
                      go_roundw
                      case rel => exact ⟨i + 1, by first | rfl | simp, by omega, hL⟩
                      case measure => simp [intOf]; omega
                    · go_wp2_with fail
                      refine (steps_ds HI7.out.ds).mono ?_
                      rintro e w9 ⟨rfl, hg9⟩
                      go_wp2_with fail
                      refine (hsm _ hg9).mono ?_
                      rintro e w10 ⟨rfl, hg10⟩
                      have hg79 := grown_trans hg9 hg10 (by simp)
                      have hL : Lp w w10 b m base (i + 1) := ⟨grown_trans hgw7 hg79 (by simp), fs, st, n, D, X, B, (HI7.out.grown hg79).mono⟩
                      go_wp2
                      go_roundw
                      case rel => exact ⟨i + 1, by first | rfl | simp, by omega, hL⟩
                      case measure => simp [intOf]; omega
                    · go_wp2_with fail
                      refine (steps_ds HI7.out.ds).mono ?_
                      rintro e w9 ⟨rfl, hg9⟩
                      go_wp2_with fail
                      refine (hsm _ hg9).mono ?_
                      rintro e w10 ⟨rfl, hg10⟩
                      have hg79 := grown_trans hg9 hg10 (by simp)
                      have hL : Lp w w10 b m base (i + 1) := ⟨grown_trans hgw7 hg79 (by simp), fs, st, n, D, X, B, (HI7.out.grown hg79).mono⟩
                      go_wp2
                      go_roundw
                      case rel => exact ⟨i + 1, by first | rfl | simp, by omega, hL⟩
                      case measure => simp [intOf]; omega
                  · rcases hfc with rfl | rfl | rfl
                    · go_wp2_with fail
                      refine (steps_ds hI8.ds).mono ?_
                      rintro e w9 ⟨rfl, hg9⟩
                      have hL : Lp w w9 b m base (i + 1) := ⟨grown_trans (grown_chg hgw7 hC8 l3) hg9 (by simp), _, _, _, _, _, _, hI8.grown hg9⟩
                      clear hI8
                      go_wp2
                      go_roundw
                      case rel => exact ⟨i + 1, by first | rfl | simp, by omega, hL⟩
                      case measure => simp [intOf]; omega
                    · go_wp2_with fail
                      refine (steps_ds hI8.ds).mono ?_
                      rintro e w9 ⟨rfl, hg9⟩
                      have hL : Lp w w9 b m base (i + 1) := ⟨grown_trans (grown_chg hgw7 hC8 l3) hg9 (by simp), _, _, _, _, _, _, hI8.grown hg9⟩
                      clear hI8
                      go_wp2
                      go_roundw
                      case rel => exact ⟨i + 1, by first | rfl | simp, by omega, hL⟩
                      case measure => simp [intOf]; omega
                    · go_wp2_with fail
                      refine (steps_ds hI8.ds).mono ?_
                      rintro e w9 ⟨rfl, hg9⟩
                      have hL : Lp w w9 b m base (i + 1) := ⟨grown_trans (grown_chg hgw7 hC8 l3) hg9 (by simp), _, _, _, _, _, _, hI8.grown hg9⟩
                      clear hI8
                      go_wp2
                      go_roundw
                      case rel => exact ⟨i + 1, by first | rfl | simp, by omega, hL⟩
                      case measure => simp [intOf]; omega
                have n2 : (x.kd == 2) = false := by simpa using e2
                by_cases e3 : x.kd = 3
                · rw [e3] at k0
                  have hop := sync_op HI7.out hi3 x.nm
                  go_wp2_with fail
                  refine hop.mono ?_
                  clear hop
                  rintro e w8 ⟨f, rfl, hR⟩
                  rcases hR with ⟨rfl, hfc⟩ | ⟨hfc, ⟨n8, D8, X8, B8, hI8⟩, hC8⟩
                  · rcases hfc with rfl | rfl | rfl | rfl
                    · go_wp2_with fail
                      refine (steps_ds HI7.out.ds).mono ?_
                      rintro e w9 ⟨rfl, hg9⟩
                      go_wp2_with fail
                      refine (hsm _ hg9).mono ?_
                      rintro e w10 ⟨rfl, hg10⟩
                      have hg79 := grown_trans hg9 hg10 (by simp)
                      have hL : Lp w w10 b m base (i + 1) := ⟨grown_trans hgw7 hg79 (by simp), fs, st, n, D, X, B, (HI7.out.grown hg79).mono⟩
                      go_wp2
                      go_roundw
                      case rel => exact ⟨i + 1, by first | rfl | simp, by omega, hL⟩
                      case measure => simp [intOf]; omega
                    · go_wp2_with fail
                      refine (steps_ds HI7.out.ds).mono ?_
                      rintro e w9 ⟨rfl, hg9⟩
                      go_wp2_with fail
                      refine (hsm _ hg9).mono ?_
                      rintro e w10 ⟨rfl, hg10⟩
                      have hg79 := grown_trans hg9 hg10 (by simp)
                      have hL : Lp w w10 b m base (i + 1) := ⟨grown_trans hgw7 hg79 (by simp), fs, st, n, D, X, B, (HI7.out.grown hg79).mono⟩
                      go_wp2
                      go_roundw
                      case rel => exact ⟨i + 1, by first | rfl | simp, by omega, hL⟩
                      case measure => simp [intOf]; omega
                    · go_wp2_with fail
                      refine (steps_ds HI7.out.ds).mono ?_
                      rintro e w9 ⟨rfl, hg9⟩
                      go_wp2_with fail
                      refine (hsm _ hg9).mono ?_
                      rintro e w10 ⟨rfl, hg10⟩
                      have hg79 := grown_trans hg9 hg10 (by simp)
                      have hL : Lp w w10 b m base (i + 1) := ⟨grown_trans hgw7 hg79 (by simp), fs, st, n, D, X, B, (HI7.out.grown hg79).mono⟩
                      go_wp2
                      go_roundw
                      case rel => exact ⟨i + 1, by first | rfl | simp, by omega, hL⟩
                      case measure => simp [intOf]; omega
                    · go_wp2_with fail
                      refine (steps_ds HI7.out.ds).mono ?_
                      rintro e w9 ⟨rfl, hg9⟩
                      go_wp2_with fail
                      refine (hsm _ hg9).mono ?_
                      rintro e w10 ⟨rfl, hg10⟩
                      have hg79 := grown_trans hg9 hg10 (by simp)
                      have hL : Lp w w10 b m base (i + 1) := ⟨grown_trans hgw7 hg79 (by simp), fs, st, n, D, X, B, (HI7.out.grown hg79).mono⟩
                      go_wp2
                      go_roundw
                      case rel => exact ⟨i + 1, by first | rfl | simp, by omega, hL⟩
                      case measure => simp [intOf]; omega
                  · rcases hfc with rfl | rfl | rfl
                    · go_wp2_with fail
                      refine (steps_ds hI8.ds).mono ?_
                      rintro e w9 ⟨rfl, hg9⟩
                      have hL : Lp w w9 b m base (i + 1) := ⟨grown_trans (grown_chg hgw7 hC8 l3) hg9 (by simp), _, _, _, _, _, _, hI8.grown hg9⟩
                      clear hI8
                      go_wp2
                      go_roundw
                      case rel => exact ⟨i + 1, by first | rfl | simp, by omega, hL⟩
                      case measure => simp [intOf]; omega
                    · go_wp2_with fail
                      refine (steps_ds hI8.ds).mono ?_
                      rintro e w9 ⟨rfl, hg9⟩
                      have hL : Lp w w9 b m base (i + 1) := ⟨grown_trans (grown_chg hgw7 hC8 l3) hg9 (by simp), _, _, _, _, _, _, hI8.grown hg9⟩
                      clear hI8
                      go_wp2
                      go_roundw
                      case rel => exact ⟨i + 1, by first | rfl | simp, by omega, hL⟩
                      case measure => simp [intOf]; omega
                    · go_wp2_with fail
                      refine (steps_ds hI8.ds).mono ?_
                      rintro e w9 ⟨rfl, hg9⟩
                      have hL : Lp w w9 b m base (i + 1) := ⟨grown_trans (grown_chg hgw7 hC8 l3) hg9 (by simp), _, _, _, _, _, _, hI8.grown hg9⟩
                      clear hI8
                      go_wp2
                      go_roundw
                      case rel => exact ⟨i + 1, by first | rfl | simp, by omega, hL⟩
                      case measure => simp [intOf]; omega
                have n3 : (x.kd == 3) = false := by simpa using e3
                by_cases e4 : x.kd = 4
                · rw [e4] at k0
                  have hop := syncdir_op HI7.out hi3
                  go_wp2_with fail
                  refine hop.mono ?_
                  clear hop
                  rintro e w8 ⟨f, rfl, hR⟩
                  rcases hR with ⟨rfl, hfc⟩ | ⟨hfc, ⟨n8, D8, X8, B8, hI8⟩, hC8⟩
                  · rcases hfc with rfl | rfl | rfl | rfl
                    · go_wp2_with fail
                      refine (steps_ds HI7.out.ds).mono ?_
                      rintro e w9 ⟨rfl, hg9⟩
                      go_wp2_with fail
                      refine (hsm _ hg9).mono ?_
                      rintro e w10 ⟨rfl, hg10⟩
                      have hg79 := grown_trans hg9 hg10 (by simp)
                      have hL : Lp w w10 b m base (i + 1) := ⟨grown_trans hgw7 hg79 (by simp), fs, st, n, D, X, B, (HI7.out.grown hg79).mono⟩
                      go_wp2
                      go_roundw
                      case rel => exact ⟨i + 1, by first | rfl | simp, by omega, hL⟩
                      case measure => simp [intOf]; omega
                    · go_wp2_with fail
                      refine (steps_ds HI7.out.ds).mono ?_
                      rintro e w9 ⟨rfl, hg9⟩
                      go_wp2_with fail
                      refine (hsm _ hg9).mono ?_
                      rintro e w10 ⟨rfl, hg10⟩
                      have hg79 := grown_trans hg9 hg10 (by simp)
                      have hL : Lp w w10 b m base (i + 1) := ⟨grown_trans hgw7 hg79 (by simp), fs, st, n, D, X, B, (HI7.out.grown hg79).mono⟩
                      go_wp2
                      go_roundw
                      case rel => exact ⟨i + 1, by first | rfl | simp, by omega, hL⟩
                      case measure => simp [intOf]; omega
                    · go_wp2_with fail
                      refine (steps_ds HI7.out.ds).mono ?_
                      rintro e w9 ⟨rfl, hg9⟩
                      go_wp2_with fail
                      refine (hsm _ hg9).mono ?_
                      rintro e w10 ⟨rfl, hg10⟩
                      have hg79 := grown_trans hg9 hg10 (by simp)
                      have hL : Lp w w10 b m base (i + 1) := ⟨grown_trans hgw7 hg79 (by simp), fs, st, n, D, X, B, (HI7.out.grown hg79).mono⟩
                      go_wp2
                      go_roundw
                      case rel => exact ⟨i + 1, by first | rfl | simp, by omega, hL⟩
                      case measure => simp [intOf]; omega
                    · go_wp2_with fail
                      refine (steps_ds HI7.out.ds).mono ?_
                      rintro e w9 ⟨rfl, hg9⟩
                      go_wp2_with fail
                      refine (hsm _ hg9).mono ?_
                      rintro e w10 ⟨rfl, hg10⟩
                      have hg79 := grown_trans hg9 hg10 (by simp)
                      have hL : Lp w w10 b m base (i + 1) := ⟨grown_trans hgw7 hg79 (by simp), fs, st, n, D, X, B, (HI7.out.grown hg79).mono⟩
                      go_wp2
                      go_roundw
                      case rel => exact ⟨i + 1, by first | rfl | simp, by omega, hL⟩
                      case measure => simp [intOf]; omega
                  · rcases hfc with rfl | rfl | rfl
                    · go_wp2_with fail
                      refine (steps_ds hI8.ds).mono ?_
                      rintro e w9 ⟨rfl, hg9⟩
                      have hL : Lp w w9 b m base (i + 1) := ⟨grown_trans (grown_chg hgw7 hC8 l3) hg9 (by simp), _, _, _, _, _, _, hI8.grown hg9⟩
                      clear hI8
                      go_wp2
                      go_roundw
                      case rel => exact ⟨i + 1, by first | rfl | simp, by omega, hL⟩
                      case measure => simp [intOf]; omega
                    · go_wp2_with fail
                      refine (steps_ds hI8.ds).mono ?_
                      rintro e w9 ⟨rfl, hg9⟩
                      have hL : Lp w w9 b m base (i + 1) := ⟨grown_trans (grown_chg hgw7 hC8 l3) hg9 (by simp), _, _, _, _, _, _, hI8.grown hg9⟩
                      clear hI8
                      go_wp2
                      go_roundw
                      case rel => exact ⟨i + 1, by first | rfl | simp, by omega, hL⟩
                      case measure => simp [intOf]; omega
                    · go_wp2_with fail
                      refine (steps_ds hI8.ds).mono ?_
                      rintro e w9 ⟨rfl, hg9⟩
                      have hL : Lp w w9 b m base (i + 1) := ⟨grown_trans (grown_chg hgw7 hC8 l3) hg9 (by simp), _, _, _, _, _, _, hI8.grown hg9⟩
                      clear hI8
                      go_wp2
                      go_roundw
                      case rel => exact ⟨i + 1, by first | rfl | simp, by omega, hL⟩
                      case measure => simp [intOf]; omega
                have n4 : (x.kd == 4) = false := by simpa using e4
                by_cases e5 : x.kd = 5
                · rw [e5] at k0
                  have hop := cut_op HI7.out hi3 x.nm x.nn
                  go_wp2_with fail
                  refine hop.mono ?_
                  clear hop
                  rintro e w8 ⟨f, rfl, hR⟩
                  rcases hR with ⟨rfl, hfc⟩ | ⟨hfc, ⟨n8, D8, X8, B8, hI8⟩, hC8⟩
                  · rcases hfc with rfl | rfl | rfl | rfl
                    · go_wp2_with fail
                      refine (steps_ds HI7.out.ds).mono ?_
                      rintro e w9 ⟨rfl, hg9⟩
                      go_wp2_with fail
                      refine (hsm _ hg9).mono ?_
                      rintro e w10 ⟨rfl, hg10⟩
                      have hg79 := grown_trans hg9 hg10 (by simp)
                      have hL : Lp w w10 b m base (i + 1) := ⟨grown_trans hgw7 hg79 (by simp), fs, st, n, D, X, B, (HI7.out.grown hg79).mono⟩
                      go_wp2
                      go_roundw
                      case rel => exact ⟨i + 1, by first | rfl | simp, by omega, hL⟩
                      case measure => simp [intOf]; omega
                    · go_wp2_with fail
                      refine (steps_ds HI7.out.ds).mono ?_
                      rintro e w9 ⟨rfl, hg9⟩
                      go_wp2_with fail
                      refine (hsm _ hg9).mono ?_
                      rintro e w10 ⟨rfl, hg10⟩
                      have hg79 := grown_trans hg9 hg10 (by simp)
                      have hL : Lp w w10 b m base (i + 1) := ⟨grown_trans hgw7 hg79 (by simp), fs, st, n, D, X, B, (HI7.out.grown hg79).mono⟩
                      go_wp2
                      go_roundw
                      case rel => exact ⟨i + 1, by first | rfl | simp, by omega, hL⟩
                      case measure => simp [intOf]; omega
                    · go_wp2_with fail
                      refine (steps_ds HI7.out.ds).mono ?_
                      rintro e w9 ⟨rfl, hg9⟩
                      go_wp2_with fail
                      refine (hsm _ hg9).mono ?_
                      rintro e w10 ⟨rfl, hg10⟩
                      have hg79 := grown_trans hg9 hg10 (by simp)
                      have hL : Lp w w10 b m base (i + 1) := ⟨grown_trans hgw7 hg79 (by simp), fs, st, n, D, X, B, (HI7.out.grown hg79).mono⟩
                      go_wp2
                      go_roundw
                      case rel => exact ⟨i + 1, by first | rfl | simp, by omega, hL⟩
                      case measure => simp [intOf]; omega
                    · go_wp2_with fail
                      refine (steps_ds HI7.out.ds).mono ?_
                      rintro e w9 ⟨rfl, hg9⟩
                      go_wp2_with fail
                      refine (hsm _ hg9).mono ?_
                      rintro e w10 ⟨rfl, hg10⟩
                      have hg79 := grown_trans hg9 hg10 (by simp)
                      have hL : Lp w w10 b m base (i + 1) := ⟨grown_trans hgw7 hg79 (by simp), fs, st, n, D, X, B, (HI7.out.grown hg79).mono⟩
                      go_wp2
                      go_roundw
                      case rel => exact ⟨i + 1, by first | rfl | simp, by omega, hL⟩
                      case measure => simp [intOf]; omega
                  · rcases hfc with rfl | rfl | rfl
                    · go_wp2_with fail
                      refine (steps_ds hI8.ds).mono ?_
                      rintro e w9 ⟨rfl, hg9⟩
                      have hL : Lp w w9 b m base (i + 1) := ⟨grown_trans (grown_chg hgw7 hC8 l3) hg9 (by simp), _, _, _, _, _, _, hI8.grown hg9⟩
                      clear hI8
                      go_wp2
                      go_roundw
                      case rel => exact ⟨i + 1, by first | rfl | simp, by omega, hL⟩
                      case measure => simp [intOf]; omega
                    · go_wp2_with fail
                      refine (steps_ds hI8.ds).mono ?_
                      rintro e w9 ⟨rfl, hg9⟩
                      have hL : Lp w w9 b m base (i + 1) := ⟨grown_trans (grown_chg hgw7 hC8 l3) hg9 (by simp), _, _, _, _, _, _, hI8.grown hg9⟩
                      clear hI8
                      go_wp2
                      go_roundw
                      case rel => exact ⟨i + 1, by first | rfl | simp, by omega, hL⟩
                      case measure => simp [intOf]; omega
                    · go_wp2_with fail
                      refine (steps_ds hI8.ds).mono ?_
                      rintro e w9 ⟨rfl, hg9⟩
                      have hL : Lp w w9 b m base (i + 1) := ⟨grown_trans (grown_chg hgw7 hC8 l3) hg9 (by simp), _, _, _, _, _, _, hI8.grown hg9⟩
                      clear hI8
                      go_wp2
                      go_roundw
                      case rel => exact ⟨i + 1, by first | rfl | simp, by omega, hL⟩
                      case measure => simp [intOf]; omega
                have n5 : (x.kd == 5) = false := by simpa using e5
                by_cases e6 : x.kd = 6
                · rw [e6] at k0
                  have hop := remove_op HI7.out hi3 x.nm
                  go_wp2_with fail
                  refine hop.mono ?_
                  clear hop
                  rintro e w8 ⟨f, rfl, hR⟩
                  rcases hR with ⟨rfl, hfc⟩ | ⟨hfc, ⟨n8, D8, X8, B8, hI8⟩, hC8⟩
                  · rcases hfc with rfl | rfl | rfl | rfl
                    · go_wp2_with fail
                      refine (steps_ds HI7.out.ds).mono ?_
                      rintro e w9 ⟨rfl, hg9⟩
                      go_wp2_with fail
                      refine (hsm _ hg9).mono ?_
                      rintro e w10 ⟨rfl, hg10⟩
                      have hg79 := grown_trans hg9 hg10 (by simp)
                      have hL : Lp w w10 b m base (i + 1) := ⟨grown_trans hgw7 hg79 (by simp), fs, st, n, D, X, B, (HI7.out.grown hg79).mono⟩
                      go_wp2
                      go_roundw
                      case rel => exact ⟨i + 1, by first | rfl | simp, by omega, hL⟩
                      case measure => simp [intOf]; omega
                    · go_wp2_with fail
                      refine (steps_ds HI7.out.ds).mono ?_
                      rintro e w9 ⟨rfl, hg9⟩
                      go_wp2_with fail
                      refine (hsm _ hg9).mono ?_
                      rintro e w10 ⟨rfl, hg10⟩
                      have hg79 := grown_trans hg9 hg10 (by simp)
                      have hL : Lp w w10 b m base (i + 1) := ⟨grown_trans hgw7 hg79 (by simp), fs, st, n, D, X, B, (HI7.out.grown hg79).mono⟩
                      go_wp2
                      go_roundw
                      case rel => exact ⟨i + 1, by first | rfl | simp, by omega, hL⟩
                      case measure => simp [intOf]; omega
                    · go_wp2_with fail
                      refine (steps_ds HI7.out.ds).mono ?_
                      rintro e w9 ⟨rfl, hg9⟩
                      go_wp2_with fail
                      refine (hsm _ hg9).mono ?_
                      rintro e w10 ⟨rfl, hg10⟩
                      have hg79 := grown_trans hg9 hg10 (by simp)
                      have hL : Lp w w10 b m base (i + 1) := ⟨grown_trans hgw7 hg79 (by simp), fs, st, n, D, X, B, (HI7.out.grown hg79).mono⟩
                      go_wp2
                      go_roundw
                      case rel => exact ⟨i + 1, by first | rfl | simp, by omega, hL⟩
                      case measure => simp [intOf]; omega
                    · go_wp2_with fail
                      refine (steps_ds HI7.out.ds).mono ?_
                      rintro e w9 ⟨rfl, hg9⟩
                      go_wp2_with fail
                      refine (hsm _ hg9).mono ?_
                      rintro e w10 ⟨rfl, hg10⟩
                      have hg79 := grown_trans hg9 hg10 (by simp)
                      have hL : Lp w w10 b m base (i + 1) := ⟨grown_trans hgw7 hg79 (by simp), fs, st, n, D, X, B, (HI7.out.grown hg79).mono⟩
                      go_wp2
                      go_roundw
                      case rel => exact ⟨i + 1, by first | rfl | simp, by omega, hL⟩
                      case measure => simp [intOf]; omega
                  · rcases hfc with rfl | rfl | rfl
                    · go_wp2_with fail
                      refine (steps_ds hI8.ds).mono ?_
                      rintro e w9 ⟨rfl, hg9⟩
                      have hL : Lp w w9 b m base (i + 1) := ⟨grown_trans (grown_chg hgw7 hC8 l3) hg9 (by simp), _, _, _, _, _, _, hI8.grown hg9⟩
                      clear hI8
                      go_wp2
                      go_roundw
                      case rel => exact ⟨i + 1, by first | rfl | simp, by omega, hL⟩
                      case measure => simp [intOf]; omega
                    · go_wp2_with fail
                      refine (steps_ds hI8.ds).mono ?_
                      rintro e w9 ⟨rfl, hg9⟩
                      have hL : Lp w w9 b m base (i + 1) := ⟨grown_trans (grown_chg hgw7 hC8 l3) hg9 (by simp), _, _, _, _, _, _, hI8.grown hg9⟩
                      clear hI8
                      go_wp2
                      go_roundw
                      case rel => exact ⟨i + 1, by first | rfl | simp, by omega, hL⟩
                      case measure => simp [intOf]; omega
                    · go_wp2_with fail
                      refine (steps_ds hI8.ds).mono ?_
                      rintro e w9 ⟨rfl, hg9⟩
                      have hL : Lp w w9 b m base (i + 1) := ⟨grown_trans (grown_chg hgw7 hC8 l3) hg9 (by simp), _, _, _, _, _, _, hI8.grown hg9⟩
                      clear hI8
                      go_wp2
                      go_roundw
                      case rel => exact ⟨i + 1, by first | rfl | simp, by omega, hL⟩
                      case measure => simp [intOf]; omega
                have n6 : (x.kd == 6) = false := by simpa using e6
                have hL : Lp w w7 b m base (i + 1) := ⟨hgw7, fs, st, n, D, X, B, HI7.out.mono⟩
                go_wp2
                go_roundw
                case rel => exact ⟨i + 1, by first | rfl | simp, by omega, hL⟩
                case measure => simp [intOf]; omega
            · obtain rfl : i = sn := by omega
              have dl : decide ((i : Int) < (i : Int)) = false := by simp
              clear hI
              go_wp2_with fail
              refine (known_any _).mono ?_
              rintro e w9 ⟨rfl, hg9⟩
              have hG := grown_trans hgw hg9 (by simp)
              go_wp2
              go_ret
              exact ⟨rfl, hG⟩
end Go.Proofs.Ythkbakaodbceiaa
