/-
  Read of the bytes of an index.
-/
import Derived.Test.YtbnoemfhcpjdjaaDoorQ2
import Derived.Test.YtbnoemfhcpjdjaaDoorP2
namespace Go.Proofs.YtbnoemfhcpjdjaaDoor
open Go.RowKit
set_option linter.unusedVariables false

set_option maxRecDepth 100000 in
theorem left_any (w : World) (b g o n cap : Nat) (l : List UInt8) (at' : Nat) (h : Rd w b g o n cap l at') :
    Calls Tryd.prog 40 #[.pointer (some ⟨b, 0, none⟩)] w fun r w' => r = .returned (.int .i64 n) ∧ w' = w := by
  have h1 := h.c0
  go_enter Tryd.func40, Tryd.ntmps40
  go_wp2_with fail
  refine (there_any _ _ h.c2).mono ?_
  rintro e w1 ⟨rfl, rfl⟩
  go_wp2
  go_ret
  exact ⟨rfl, rfl⟩

theorem Rd.kept {w w' : World} {b g o n cap : Nat} {l : List UInt8} {at' : Nat} {S : Nat → Prop} (h : Rd w b g o n cap l at') (hc : Chg w w' S) (hb : ¬ S b) (hg : ¬ S g) : Rd w' b g o n cap l at' :=
  ⟨hc.cell h.c0 hb, hc.cell h.c1 hb, hc.cell h.c2 hb, fun i => by
    rw [World.frozen?_of_block (w := w) (a := ⟨b, i, none⟩) (hc.block b (World.block_lt_of_cell? w _ h.c0) hb)]; exact h.fz i, ⟨h.bs.len, h.bs.room, h.bs.top, h.bs.nil, fun a ha j u hu => hc.cell (h.bs.cells a ha j u hu) (by rw [add_block]; cases ha; exact hg)⟩, h.ap, Nat.lt_of_lt_of_le h.gl hc.size, h.bd⟩

/-- Each spot was put behind those ahead of it. -/
def Puts (st : Int) (l : List Sd) : Prop := ∀ k (h : k < l.length), addR st (l.take k) l[k] = (true, 0, l.take (k + 1))
theorem Puts.snoc {st : Int} {l : List Sd} {s : Sd} (h : Puts st l) (hs : addR st l s = (true, 0, l ++ [s])) : Puts st (l ++ [s]) := by
  intro k hk
  by_cases e : k < l.length
  · rw [List.take_append_of_le_length (by omega), List.take_append_of_le_length (by omega), List.getElem_append_left e]
    exact h k e
  · have hk' : k = l.length := by simp at hk; omega
    subst hk'
    rw [List.take_append_of_le_length (Nat.le_refl _), List.take_length, List.take_of_length_le (l := l ++ [s]) (by simp)]
    rw [List.getElem_append_right (Nat.le_refl _)]
    simpa using hs
theorem Puts.step {st : Int} {l : List Sd} (h : Puts st l) (s : Sd) (h0 : (addR st l s).2.1 = 0) : Puts st (addR st l s).2.2 := by
  by_cases hb : badB l s = true
  · unfold addR at h0; rw [if_pos hb] at h0; cases h0
  · by_cases hn : nearB st l s = true
    · unfold addR; rw [if_neg hb, if_pos hn]; exact h
    · have he : addR st l s = (true, 0, l ++ [s]) := by unfold addR; rw [if_neg hb, if_neg hn]
      rw [he]
      exact h.snoc he

theorem drop_flat {l : List Sd} {k : Nat} (hk : k < l.length) : flatB (l.drop k) = sby l[k] ++ flatB (l.drop (k + 1)) := by
  unfold flatB
  rw [List.drop_eq_getElem_cons hk, List.map_cons, List.flatten_cons]

set_option maxRecDepth 100000 in
set_option maxHeartbeats 4000000 in
theorem read_ok (w : World) (hD : Dt w) (bo : Option Addr) (n bc : Nat) (st : Nat) (l : List Sd) (hb : Bs w bo n bc (iby st l)) (h1 : 1 ≤ st) (h2 : st ≤ 16777216) (hl : l.length ≤ 80000) (hgood : Good l) (hput : Puts st l) :
    Calls Tryd.prog 21 #[.slice bo n bc] w fun e w' => ∃ b base, e = .returned (.tuple #[.pointer (some ⟨b, 0, none⟩), .int .i64 0]) ∧ Xd w' base b st l ∧ w.heap.size ≤ base ∧ w.grownBy w' none := by
  have hn : n = 8 + 12 * l.length := by rw [← hb.len]; simp [iby, low_length, flatB_len]; omega
  have hn1 : n ≤ 8 + 12 * l.length := by omega
  have hn2 : 8 + 12 * l.length ≤ n := by omega
  clear hn
  have hnw := new_far w bo n bc _ hb (by omega)
  go_enter Tryd.func21, Tryd.ntmps21
  go_wp2_with fail
  go_step3
  go_wp2_with fail
  refine hnw.mono ?_
  clear hnw
  rintro e w1 ⟨br, gr, rfl, hR1, hbr, hgr, hg1⟩
  have hu1 := u32_yes w1 br gr 0 n n _ 0 hR1 (by omega)
  have v1 : val ((iby st l).take 4) = st := by
    rw [iby, List.append_assoc, List.take_append_of_le_length (by simp [low_length]), List.take_of_length_le (by simp [low_length]), val_low]
    omega
  have dr1 : (iby st l).drop 4 = low l.length 4 ++ flatB l := by
    rw [iby, List.append_assoc, List.drop_append_of_le_length (by simp [low_length]), List.drop_of_length_le (by simp [low_length]), List.nil_append]
  rw [v1, dr1] at hu1
  clear v1 dr1
  go_wp2_with fail
  refine hu1.mono ?_
  clear hu1
  rintro e w2 ⟨rfl, o2, cap2, hR2, hg2⟩
  have hu2 := u32_yes w2 br gr o2 _ cap2 _ _ hR2 (by omega)
  have v2 : val ((low l.length 4 ++ flatB l).take 4) = l.length := by
    rw [List.take_append_of_le_length (by simp [low_length]), List.take_of_length_le (by simp [low_length]), val_low]
    omega
  have dr2 : (low l.length 4 ++ flatB l).drop 4 = flatB l := by
    rw [List.drop_append_of_le_length (by simp [low_length]), List.drop_of_length_le (by simp [low_length]), List.nil_append]
  rw [v2, dr2] at hu2
  clear v2 dr2
  go_wp2_with fail
  refine hu2.mono ?_
  clear hu2
  rintro e w3 ⟨rfl, o3, cap3, hR3, hg3⟩
  rw [show n - 4 - 4 = 12 * l.length by omega, show 0 + 4 + 4 = 8 from rfl] at hR3
  have hG3 : w.grownBy w3 none := grown_trans (grown_trans hg1 hg2 (fun k e => Or.inr (by cases e; exact hbr))) hg3 (fun k e => Or.inr (by cases e; exact hbr))
  have hbrl : br < w3.heap.size := World.block_lt_of_cell? w3 _ hR3.c0
  have hgrl := hR3.gl
  have hwt : IntKind.i64.wrap (st : Int) = (st : Int) := by rw [IntWalk.i64_in _ (by omega)]
  have hne := new_ok w3 (st : Int) (by omega) (by omega)
  clear hR1 hR2 hg1 hg2 hg3
  go_wp2_with fail
  refine hne.mono ?_
  clear hne
  rintro e w4 ⟨bx, rfl, hX4, hg4⟩
  have hR4 := hR3.kept (Chg.of_grown hg4 (fun _ => False)) (fun e => e) (fun e => e)
  have hG4 := grown_trans hG3 hg4 (by simp)
  have hle := left_any w4 br gr o3 _ cap3 _ _ hR4
  have hwl : IntKind.i64.wrap (l.length : Int) = (l.length : Int) := by rw [IntWalk.i64_in _ (by omega)]
  have hwm : IntKind.i64.wrap ((l.length : Int) * 12) = ((12 * l.length : Nat) : Int) := by rw [IntWalk.i64_in _ (by omega)]; omega
  go_wp2_with fail
  refine hle.mono ?_
  clear hle
  rintro e w4 ⟨rfl, rfl⟩
  obtain ⟨base, hbase⟩ : ∃ base, w3.heap.size = base := ⟨_, rfl⟩
  rw [hbase] at hX4 hbrl hgrl
  have hwb : w.heap.size ≤ base := by have := hG3.size; omega
  clear hwt hR3 hg4 hG3 hbase
  go_wp2_with fail
  clear hwl hwm
  go_loopw [50] (fun v50 wr => ∃ (k o cap : Nat), v50 = .int .u32 k ∧ k ≤ l.length ∧ Rd wr br gr o (12 * (l.length - k)) cap (flatB (l.drop k)) (8 + 12 * k) ∧ Xd wr base bx st (l.take k) ∧ Chg w4 wr (fun q => q = br ∨ base ≤ q)) (fun v50 _ => l.length - (intOf v50).toNat)
  case atStart => exact ⟨0, o3, cap3, rfl, Nat.zero_le _, by simpa using hR4, by simpa using hX4, Chg.refl _ _⟩
  case round =>
    obtain ⟨k, o, cap, rfl, hk, hR, hX, hC⟩ := hrel
    have hGr : w.grownBy wr none := ((Chg.of_grown hG4 _).trans hC).grown (fun q hq e => by omega)
    by_cases hlt : k < l.length
    · have d1 : decide ((k : Int) < (l.length : Int)) = true := by simp; omega
      have hfl := drop_flat hlt
      have hadd := hput k hlt
      have hgt := hgood l[k] (List.getElem_mem hlt)
      generalize hlk : l[k] = t at *
      obtain ⟨ov, pv⟩ := t
      simp only at hgt
      obtain ⟨on, rfl⟩ := Int.eq_ofNat_of_zero_le hgt.1
      obtain ⟨pn, rfl⟩ := Int.eq_ofNat_of_zero_le hgt.2.2.1
      have hsb : sby ⟨(on : Int), (pn : Int)⟩ = low on 8 ++ low pn 4 := by simp [sby]
      rw [hfl, hsb] at hR
      have hi8 := i64_yes wr br gr o _ cap _ _ hR (by omega)
      have v8 : val ((low on 8 ++ low pn 4 ++ flatB (l.drop (k + 1))).take 8) = on := by
        rw [List.append_assoc, List.take_append_of_le_length (by simp [low_length]), List.take_of_length_le (by simp [low_length]), val_low]
        omega
      have dr8 : (low on 8 ++ low pn 4 ++ flatB (l.drop (k + 1))).drop 8 = low pn 4 ++ flatB (l.drop (k + 1)) := by
        rw [List.append_assoc, List.drop_append_of_le_length (by simp [low_length]), List.drop_of_length_le (by simp [low_length]), List.nil_append]
      have w8 : wrap64 ((on : Nat) : Int) = (on : Int) := by unfold wrap64; omega
      rw [v8, dr8, w8] at hi8
      clear v8 dr8 w8 hsb hfl
      have hXk := hX
      have hwp : IntKind.i64.wrap (pn : Int) = (pn : Int) := by rw [IntWalk.i64_in _ (by omega)]
      have hwk : IntKind.u32.wrap ((k : Int) + 1) = ((k + 1 : Nat) : Int) := by rw [IntWalk.u32_in _ (by omega)]; omega
      clear hlk
      go_wp2_with fail
      refine hi8.mono ?_
      clear hi8
      rintro e w5 ⟨rfl, o5, cap5, hR5, hg5⟩
      have hc5 : Chg wr w5 (fun q => q = br) := ⟨hg5.os, hg5.tape, hg5.output, hg5.size, fun q hq hn => hg5.block q hq (fun e => hn (by simpa using e))⟩
      have hu5 := u32_yes w5 br gr o5 _ cap5 _ _ hR5 (by omega)
      have v4 : val ((low pn 4 ++ flatB (l.drop (k + 1))).take 4) = pn := by
        rw [List.take_append_of_le_length (by simp [low_length]), List.take_of_length_le (by simp [low_length]), val_low]
        omega
      have dr4 : (low pn 4 ++ flatB (l.drop (k + 1))).drop 4 = flatB (l.drop (k + 1)) := by
        rw [List.drop_append_of_le_length (by simp [low_length]), List.drop_of_length_le (by simp [low_length]), List.nil_append]
      rw [v4, dr4] at hu5
      clear v4 dr4
      go_wp2_with fail
      refine hu5.mono ?_
      clear hu5
      rintro e w6 ⟨rfl, o6, cap6, hR6, hg6⟩
      have hc6 : Chg w5 w6 (fun q => q = br) := ⟨hg6.os, hg6.tape, hg6.output, hg6.size, fun q hq hn => hg6.block q hq (fun e => hn (by simpa using e))⟩
      have hX6 := (hX.chg hc5 (fun q hq _ e => by omega)).chg hc6 (fun q hq _ e => by omega)
      have hC6 := (hC.trans (hc5.mono (fun q _ e => Or.inl e))).trans (hc6.mono (fun q _ e => Or.inl e))
      have hG6 : w.grownBy w6 none := ((Chg.of_grown hG4 _).trans hC6).grown (fun q hq e => by omega)
      have had := add_any hX6 (hD.grown hG6) (hgood.sub (List.take_sublist k l)) (by omega) (by simp; omega) ⟨(on : Int), (pn : Int)⟩
      rw [hadd] at had
      unfold Sd.val at had
      simp only at had
      clear hadd hX hX6 hR5 hg5 hg6 hR hC
      go_wp2_with fail
      refine had.mono ?_
      clear had
      rintro e w7 ⟨rfl, hX7, hc7⟩
      have hR7 := hR6.kept hc7 (by omega) (by omega)
      have hC7 := hC6.trans (hc7.mono (fun q _ e => Or.inr e))
      clear hR6 hC6 hc7 hc5 hc6
      go_wp2
      go_roundw
      case rel =>
        refine ⟨k + 1, o6, cap6, by simp, by omega, ?_, hX7, hC7⟩
        rw [show 12 * (l.length - (k + 1)) = 12 * (l.length - k) - 8 - 4 by omega, show 8 + 12 * (k + 1) = 8 + 12 * k + 8 + 4 by omega]
        exact hR7
      case measure => simp [intOf]; omega
    · obtain rfl : k = l.length := by omega
      have d1 : decide ((l.length : Int) < (l.length : Int)) = false := by simp
      rw [List.take_length] at hX
      go_wp2
      rw [Exit.noGoto_ret]
      go_ret2
      exact ⟨bx, base, rfl, hX, hwb, hGr⟩
end Go.Proofs.YtbnoemfhcpjdjaaDoor
